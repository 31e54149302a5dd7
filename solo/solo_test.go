package solo

import (
	"math"
	"reflect"
	"slices"
	"sync"
	"testing"

	"wanderer/api"
	"wanderer/code"
	"wanderer/vm"
	"wanderer/words"
)

func ins(op, a, b, c int, args ...int) api.Ins {
	return api.Ins{Op: op, A: a, B: b, C: c, Args: args}
}

func proc(params, regs int, l ...api.Ins) api.Proc {
	return api.Proc{Params: params, Regs: regs, Code: l}
}

func procs(l ...api.Proc) []api.Proc { return l }

func num(n int) api.Value { return api.Value{Kind: api.Int, N: n} }

func frame(proc, at, to int, regs ...api.Value) api.Frame {
	return api.Frame{Proc: proc, At: at, Regs: regs, To: to}
}

// state: one without cells.
func state(status, where int, l ...api.Frame) api.State {
	return api.State{Frames: l, Status: status, Where: where}
}

var (
	ret   = ins(api.IReturn, 0, 0, 0)
	pause = ins(api.IPause, 0, 0, 0)
	say   = ins(api.ISay, 0, 0, 0)
	leave = ins(api.IGo, 0, 0, 0)
	none  = api.Value{}
)

// written: a program that is written in words, compiled.
func written(t *testing.T, text string) []api.Proc {
	t.Helper()
	f, err := words.Parse(text)
	if err != api.OK {
		t.Fatalf("it isn't written right: %d: %s", err, text)
	}
	p, err := code.Compile(f)
	if err != api.OK {
		t.Fatalf("it isn't compiled: %d: %s", err, text)
	}
	return p
}

// done: a run that must be right.
func done(t *testing.T, p []api.Proc, fuel, turns int) ([]int, api.State) {
	t.Helper()
	said, s, err := Run(p, fuel, turns)
	if err != api.OK {
		t.Fatalf("fuel %d, %d turns: %d", fuel, turns, err)
	}
	if err := vm.Check(p, s); err != api.OK {
		t.Fatalf("fuel %d, %d turns: the state isn't right: %d", fuel, turns, err)
	}
	return said, s
}

// upTo: the numbers from 1 to n.
func upTo(n int) (l []int) {
	for k := range n {
		l = append(l, k+1)
	}
	return l
}

// P7.1: programs as people write them, with fuel enough: all that they say, in how many turns, and what becomes of them.
func TestPrograms(t *testing.T) {
	for _, c := range []struct {
		name, text string
		turns      int // as many as it takes
		said       []int
		status     int
	}{
		{"the document's", "fun 0 1 { set 0 3 while v0 { say v0 go v0 set 0 - v0 1 } }", 4, []int{3, 2, 1}, api.Ended},
		{"nothing", "fun 0 0 { }", 1, nil, api.Ended},
		{"ends", "fun 0 0 { say f1 2 3 say 7 } fun 2 2 { return * v0 v1 }", 1, []int{6, 7}, api.Ended},
		{"fails at once", "fun 0 1 { say v0 }", 1, nil, api.Failed},
		{"fails later", "fun 0 1 { say 5 pause say 6 go 1 say v0 say 7 }", 3, []int{5, 6}, api.Failed},
		{"fails in what is called", "fun 0 0 { say 1 say f1 } fun 0 1 { pause say 2 say .0 v0 }", 2, []int{1, 2}, api.Failed},
		{"too deep", "fun 0 0 { say f1 1 } fun 1 1 { say v0 pause return f1 + v0 1 }", 10, upTo(9), api.Failed},
		{"pauses", "fun 0 0 { pause say 1 pause pause say 2 pause }", 5, []int{1, 2}, api.Ended},
		{"pauses in what is called", "fun 0 0 { say + 1 f1 } fun 0 0 { pause say 8 pause return 9 }", 3, []int{8, 10}, api.Ended},
		{"goes", "fun 0 0 { go 0 say 1 go 1 go 2 say 2 go 0 }", 5, []int{1, 2}, api.Ended},
		{"goes in what is called", "fun 0 0 { say + 1 f1 2 } fun 1 1 { go v0 say v0 go v0 return 4 }", 3, []int{2, 5}, api.Ended},
		{"goes where there is no place", "fun 0 0 { go -1000000000 say 1 go 1000000000 say 2 go 77 say 3 }", 4, []int{1, 2, 3}, api.Ended},
		{"goes and pauses", "fun 0 1 { set 0 3 while v0 { say * v0 v0 go v0 pause set 0 - v0 1 } }", 7, []int{9, 4, 1}, api.Ended},
		{"cells live on", "fun 0 2 { set 0 new2 put 0 v0 4 put 1 v0 v0 go 1 set 1 .1 .1 v0 pause put 0 v1 + .0 v1 1 go 2 say .0 v0 say = v0 v1 }", 4, []int{5, 1}, api.Ended},
	} {
		p := written(t, c.text)
		for _, turns := range []int{c.turns, c.turns + 1, api.MaxScript} {
			said, s := done(t, p, api.MaxFuel, turns)
			if !slices.Equal(said, c.said) || s.Status != c.status || s.Where != 0 {
				t.Errorf("%s: %d turns: %v, status %d, where %d, want %v, %d", c.name, turns, said, s.Status, s.Where, c.said, c.status)
			}
		}
		if _, s := done(t, p, api.MaxFuel, c.turns-1); s.Status != api.Ready && s.Status != api.Going {
			t.Errorf("%s: it is over ahead of its last turn: status %d", c.name, s.Status)
		}
	}
}

// after: what there is behind so many turns.
type after struct {
	said []int
	s    api.State
}

// P7.1: turn by turn, from none on: what was said, and the whole state. Who goes is woken at the begin of the next turn, not at the end of its own; who is over stays so.
func TestTurnByTurn(t *testing.T) {
	number := func(n int) api.Ins { return ins(api.INum, 0, n, 0) }
	ready := func(at int, v api.Value) api.State { return state(api.Ready, 0, frame(0, at, 0, v)) }
	ended := state(api.Ended, 0)
	for _, c := range []struct {
		name string
		p    []api.Proc
		fuel int
		want []after
	}{
		{"step by step", procs(proc(0, 1, number(7), say, ret)), 1, []after{
			{nil, ready(0, none)}, {nil, ready(1, num(7))}, {[]int{7}, ready(2, num(7))}, {[]int{7}, ended}, {[]int{7}, ended}}},
		{"two steps a turn", procs(proc(0, 1, number(7), say, ret)), 2, []after{
			{nil, ready(0, none)}, {[]int{7}, ready(2, num(7))}, {[]int{7}, ended}, {[]int{7}, ended}}},
		{"just enough", procs(proc(0, 1, number(7), say, ret)), 3, []after{
			{nil, ready(0, none)}, {[]int{7}, ended}, {[]int{7}, ended}}},
		{"most fuel", procs(proc(0, 1, number(7), say, ret)), api.MaxFuel, []after{
			{nil, ready(0, none)}, {[]int{7}, ended}, {[]int{7}, ended}}},
		{"goes", procs(proc(0, 1, number(2), leave, say, leave, ret)), api.MaxFuel, []after{
			{nil, ready(0, none)}, {nil, state(api.Going, 2, frame(0, 2, 0, num(2)))}, {[]int{2}, state(api.Going, 2, frame(0, 4, 0, num(2)))}, {[]int{2}, ended}, {[]int{2}, ended}}},
		{"goes, step by step", procs(proc(0, 1, number(-5), leave, say, ret)), 1, []after{
			{nil, ready(0, none)}, {nil, ready(1, num(-5))}, {nil, state(api.Going, -5, frame(0, 2, 0, num(-5)))}, {[]int{-5}, ready(3, num(-5))}, {[]int{-5}, ended}, {[]int{-5}, ended}}},
		{"goes to 0", procs(proc(0, 1, number(0), leave, say, ret)), 9, []after{
			{nil, ready(0, none)}, {nil, state(api.Going, 0, frame(0, 2, 0, num(0)))}, {[]int{0}, ended}, {[]int{0}, ended}}},
		{"goes again and again", procs(proc(0, 1, number(2), leave, ins(api.IJump, 0, 1, 0))), 9, []after{
			{nil, ready(0, none)}, {nil, state(api.Going, 2, frame(0, 2, 0, num(2)))}, {nil, state(api.Going, 2, frame(0, 2, 0, num(2)))}, {nil, state(api.Going, 2, frame(0, 2, 0, num(2)))}}},
		{"pauses", procs(proc(0, 1, number(3), pause, say, pause, pause, ret)), api.MaxFuel, []after{
			{nil, ready(0, none)}, {nil, ready(2, num(3))}, {[]int{3}, ready(4, num(3))}, {[]int{3}, ready(5, num(3))}, {[]int{3}, ended}, {[]int{3}, ended}}},
		{"the fuel is gone ahead of a pause", procs(proc(0, 1, number(3), pause, say, ret)), 1, []after{
			{nil, ready(0, none)}, {nil, ready(1, num(3))}, {nil, ready(2, num(3))}, {[]int{3}, ready(3, num(3))}, {[]int{3}, ended}}},
		{"fails", procs(proc(0, 2, number(3), say, ins(api.ISay, 1, 0, 0), say, ret)), api.MaxFuel, []after{
			{nil, state(api.Ready, 0, frame(0, 0, 0, none, none))}, {[]int{3}, state(api.Failed, 0, frame(0, 2, 0, num(3), none))}, {[]int{3}, state(api.Failed, 0, frame(0, 2, 0, num(3), none))}}},
		{"fails, step by step", procs(proc(0, 1, say, ret)), 1, []after{
			{nil, ready(0, none)}, {nil, state(api.Failed, 0, frame(0, 0, 0, none))}, {nil, state(api.Failed, 0, frame(0, 0, 0, none))}}},
		{"fails where it came to", procs(proc(0, 2, number(3), leave, ins(api.IGo, 1, 0, 0), ret)), 5, []after{
			{nil, state(api.Ready, 0, frame(0, 0, 0, none, none))}, {nil, state(api.Going, 3, frame(0, 2, 0, num(3), none))}, {nil, state(api.Failed, 0, frame(0, 2, 0, num(3), none))}, {nil, state(api.Failed, 0, frame(0, 2, 0, num(3), none))}}},
		{"goes in what is called", procs(proc(0, 2, number(4), ins(api.ICall, 1, 1, 0, 0), ret), proc(1, 1, leave, ret)), 7, []after{
			{nil, state(api.Ready, 0, frame(0, 0, 0, none, none))}, {nil, state(api.Going, 4, frame(0, 2, 0, num(4), none), frame(1, 1, 1, num(4)))}, {nil, ended}}},
	} {
		last := len(c.want) - 1
		for turns, want := range c.want {
			if said, s := done(t, c.p, c.fuel, turns); !slices.Equal(said, want.said) || !vm.Same(s, want.s) {
				t.Errorf("%s: %d turns: %v, %+v, want %v, %+v", c.name, turns, said, s, want.said, want.s)
			}
		}
		if said, s := done(t, c.p, c.fuel, api.MaxScript); !slices.Equal(said, c.want[last].said) || !vm.Same(s, c.want[last].s) {
			t.Errorf("%s: most turns: %v, %+v, want what %d make: %+v", c.name, said, s, last, c.want[last])
		}
	}
}

// P7.1: without a turn all that there is is the begin, whatever the program would do.
func TestNoTurn(t *testing.T) {
	for _, p := range [][]api.Proc{procs(proc(0, 1, ret)), procs(proc(0, 3, say, ret), proc(2, 2, ret)), procs(proc(0, api.MaxRegs, pause, ret))} {
		for _, fuel := range []int{1, 2, api.MaxFuel} {
			want, _ := vm.New(p)
			if said, s := done(t, p, fuel, 0); len(said) != 0 || !vm.Same(s, want) {
				t.Errorf("%+v: fuel %d: %v, %+v", p, fuel, said, s)
			}
		}
	}
}

// P7.1: a run that never ends has just so many steps as there is fuel for, turn by turn.
func TestNeverEnds(t *testing.T) {
	// Register 0 counts, an IOp and an IJump for each.
	counts := procs(proc(0, 2, ins(api.INum, 0, 0, 0), ins(api.INum, 1, 1, 0), ins(api.IOp, 0, 0, 1, api.Plus), ins(api.IJump, 0, 2, 0)))
	for _, fuel := range []int{1, 2, 3, 7, 100, api.MaxFuel - 1, api.MaxFuel} {
		for _, turns := range []int{2, 3, 7, api.MaxScript - 1, api.MaxScript} {
			steps := fuel*turns - 2
			want := state(api.Ready, 0, frame(0, 2+steps%2, 0, num((steps+1)/2), num(1)))
			if said, s := done(t, counts, fuel, turns); len(said) != 0 || !vm.Same(s, want) {
				t.Errorf("fuel %d, %d turns: %v, %+v, want %+v", fuel, turns, said, s, want)
			}
		}
	}
	stands := procs(proc(0, 1, ins(api.IJump, 0, 0, 0)))
	begin, _ := vm.New(stands)
	if said, s := done(t, stands, api.MaxFuel, api.MaxScript); len(said) != 0 || !vm.Same(s, begin) {
		t.Errorf("who jumps to itself: %v, %+v", said, s)
	}
	tells := written(t, "fun 0 1 { set 0 1 while 1 { say v0 go v0 pause set 0 + v0 1 } }")
	for turns := range api.MaxScript + 1 {
		said, s := done(t, tells, api.MaxFuel, turns)
		if !slices.Equal(said, upTo((turns+1)/2)) || (s.Status == api.Going) != (turns%2 == 1) || s.Where != turns%2*len(said) {
			t.Errorf("%d turns: %v, %+v", turns, said, s)
		}
	}
}

// sayer: a program that says 1, 2, 3 and so on up to n, and goes on with l; register 1 is nothing.
func sayer(n int, l ...api.Ins) []api.Proc {
	var says []api.Ins
	for k := range n {
		says = append(says, ins(api.INum, 0, k+1, 0), say)
	}
	return procs(proc(0, 2, slices.Concat(says, l, []api.Ins{ret})...))
}

// P7.1: a slice that is full of what was said ends there, and what is said next comes in the next turn, none of it lost or said twice.
func TestFullSlices(t *testing.T) {
	const most = api.MaxSays
	next := ins(api.INum, 0, most+1, 0)
	for _, c := range []struct {
		name   string
		p      []api.Proc
		said   []int // how much, behind each turn
		status int
	}{
		{"one less", sayer(most - 1), []int{0, most - 1}, api.Ended},
		{"full", sayer(most), []int{0, most}, api.Ended},
		{"one more", sayer(most + 1), []int{0, most, most + 1}, api.Ended},
		{"twice full", sayer(2 * most), []int{0, most, 2 * most}, api.Ended},
		{"twice full and one more", sayer(2*most + 1), []int{0, most, 2 * most, 2*most + 1}, api.Ended},
		{"full, and a pause", sayer(most, pause, next, say), []int{0, most, most + 1}, api.Ended},
		{"full, and it goes", sayer(most, leave, next, say), []int{0, most, most + 1}, api.Ended},
		{"full, one more, and it goes", sayer(most, next, say, leave), []int{0, most, most + 1, most + 1}, api.Ended},
		{"full, and it fails", sayer(most, ins(api.IGo, 1, 0, 0)), []int{0, most}, api.Failed},
		{"full, and one more fails", sayer(most, ins(api.ISay, 1, 0, 0)), []int{0, most, most}, api.Failed},
	} {
		last := len(c.said) - 1
		for turns := range last + 3 {
			said, s := done(t, c.p, api.MaxFuel, turns)
			over := s.Status == api.Ended || s.Status == api.Failed
			if want := upTo(c.said[min(turns, last)]); !slices.Equal(said, want) || over != (turns >= last) || over && s.Status != c.status {
				t.Errorf("%s: %d turns: %v, status %d, want %v", c.name, turns, said, s.Status, want)
			}
		}
	}
}

// P7.1: the most that there is to say: a run that never ends, each of its slices full.
func TestMostSaid(t *testing.T) {
	p := procs(proc(0, 2, ins(api.INum, 0, 0, 0), ins(api.INum, 1, 1, 0), ins(api.IOp, 0, 0, 1, api.Plus), say, ins(api.IJump, 0, 2, 0)))
	for _, turns := range []int{1, 2, api.MaxScript - 1, api.MaxScript} {
		said, s := done(t, p, api.MaxFuel, turns)
		want := state(api.Ready, 0, frame(0, 3, 0, num(turns*api.MaxSays+1), num(1)))
		if !slices.Equal(said, upTo(turns*api.MaxSays)) || !vm.Same(s, want) {
			t.Errorf("%d turns: %d said, %+v, want %+v", turns, len(said), s, want)
		}
	}
}

// wrongPrograms: programs, each with what chapter 4 says of it.
func wrongPrograms() map[string]struct {
	p    []api.Proc
	want api.Errno
} {
	right := proc(0, 1, ret)
	return map[string]struct {
		p    []api.Proc
		want api.Errno
	}{
		"none":                         {nil, api.ErrMany},
		"empty":                        {[]api.Proc{}, api.ErrMany},
		"one procedure more":           {slices.Repeat(procs(right), api.MaxFuns+1), api.ErrMany},
		"no instruction":               {procs(proc(0, 1)), api.ErrMany},
		"one instruction more":         {procs(proc(0, 1, slices.Repeat([]api.Ins{ret}, api.MaxCode+1)...)), api.ErrMany},
		"no register":                  {procs(proc(0, 0, ret)), api.ErrRange},
		"the first one has parameters": {procs(proc(1, 1, ret)), api.ErrRange},
		"too great a number":           {procs(proc(0, 1, ins(api.INum, 0, api.MaxValue+1, 0), ret)), api.ErrRange},
		"no such instruction":          {procs(proc(0, 1, ins(14, 0, 0, 0), ret)), api.ErrForm},
		"no return":                    {procs(proc(0, 1, pause)), api.ErrForm},
		"no such procedure":            {procs(proc(0, 1, ins(api.ICall, 0, 1, 0), ret)), api.ErrWho},
		"wrong where it never comes":   {procs(right, proc(0, 1, ret, ins(api.ICall, 0, 2, 0), ret)), api.ErrWho},
		"both, one after the other":    {procs(proc(0, 1, pause), proc(0, 0, ret)), api.ErrRange},
	}
}

// refused: with an error all else is zero.
func refused(t *testing.T, name string, p []api.Proc, fuel, turns int, want api.Errno) {
	t.Helper()
	if said, s, err := Run(p, fuel, turns); err != want || said != nil || !reflect.DeepEqual(s, api.State{}) {
		t.Errorf("%s: fuel %d, %d turns: %v, %+v, %d, want %d", name, fuel, turns, said, s, err, want)
	}
}

// P7.1: fuel and turns that may not be, one or both; all up to these may.
func TestWrongNumbers(t *testing.T) {
	p := written(t, "fun 0 0 { say 1 pause say 2 }")
	wrongFuel := []int{math.MinInt, -api.MaxFuel, -1, 0, api.MaxFuel + 1, math.MaxInt}
	wrongTurns := []int{math.MinInt, -api.MaxScript, -1, api.MaxScript + 1, api.MaxFuel, math.MaxInt}
	rightFuel := []int{1, 2, api.MaxScript, api.MaxScript + 1, api.MaxFuel - 1, api.MaxFuel}
	rightTurns := []int{0, 1, 2, api.MaxScript - 1, api.MaxScript}
	for _, fuel := range wrongFuel {
		for _, turns := range append(rightTurns, wrongTurns...) {
			refused(t, "wrong fuel", p, fuel, turns, api.ErrRange)
		}
	}
	for _, turns := range wrongTurns {
		for _, fuel := range rightFuel {
			refused(t, "wrong turns", p, fuel, turns, api.ErrRange)
		}
	}
	for _, fuel := range rightFuel {
		for _, turns := range rightTurns {
			done(t, p, fuel, turns)
		}
	}
}

// P7.1: programs that aren't right, whatever the fuel and the turns: the program's error comes first.
func TestWrongPrograms(t *testing.T) {
	for name, c := range wrongPrograms() {
		for _, fuel := range []int{-1, 0, 1, api.MaxFuel, api.MaxFuel + 1} {
			for _, turns := range []int{-1, 0, 1, api.MaxScript, api.MaxScript + 1} {
				refused(t, name, c.p, fuel, turns, c.want)
			}
		}
	}
}

// P2: the program is only read, with what is behind its lists; what is answered is nobody else's.
func TestMemory(t *testing.T) {
	text := "fun 0 2 { set 0 new2 put 0 v0 3 while .0 v0 { say f1 .0 v0 2 go .0 v0 put 1 v0 new1 put 0 v0 - .0 v0 1 } say 1 set 1 2 go 7 } fun 2 2 { pause return * v0 v1 }"
	p := written(t, text)
	for k := range p {
		p[k].Code = append(p[k].Code, pause)[:len(p[k].Code)]
		for j, i := range p[k].Code {
			p[k].Code[j].Args = append(i.Args, 99)[:len(i.Args)]
		}
	}
	p = append(p, proc(9, 9))[:len(p)]
	for _, turns := range []int{0, 1, 2, 5, 8} {
		said, s := done(t, p, api.MaxFuel, turns)
		again, same := done(t, p, api.MaxFuel, turns)
		for k := range said {
			said[k] = -1
		}
		for _, f := range s.Frames {
			clear(f.Regs[:cap(f.Regs)])
		}
		clear(s.Frames)
		for _, fields := range s.Cells {
			clear(fields[:cap(fields)])
		}
		once, more := done(t, p, api.MaxFuel, turns)
		if !slices.Equal(once, again) || !vm.Same(more, same) {
			t.Errorf("%d turns: %v, %+v, and then %v, %+v", turns, again, same, once, more)
		}
	}
	if !code.Same(p, written(t, text)) {
		t.Errorf("the program is another one: %+v", p)
	}
	if behind := p[:len(p)+1][len(p)]; behind.Params != 9 || behind.Regs != 9 {
		t.Errorf("behind the program: %+v", behind)
	}
	for k, q := range p {
		if behind := q.Code[:len(q.Code)+1][len(q.Code)]; behind.Op != api.IPause {
			t.Errorf("behind procedure %d: %+v", k, behind)
		}
		for j, i := range q.Code {
			if behind := i.Args[:len(i.Args)+1][len(i.Args)]; behind != 99 {
				t.Errorf("behind instruction %d of procedure %d: %d", j, k, behind)
			}
		}
	}
}

// P2: no two lists of a state share memory: what is written into one, and behind it, is in no other.
func TestApart(t *testing.T) {
	p := written(t, "fun 0 3 { set 0 new4 set 1 new4 put 0 v0 v1 say f1 v0 v1 3 } fun 3 3 { go v2 if v2 { return f1 v0 v1 - v2 1 } { } }")
	for turns := range 6 {
		_, s := done(t, p, api.MaxFuel, turns)
		var rows [][]api.Value
		for _, f := range s.Frames {
			rows = append(rows, f.Regs)
		}
		rows = append(rows, s.Cells...)
		for k, row := range rows {
			whole := row[:cap(row)]
			for j := range whole {
				whole[j] = num(k)
			}
		}
		for k, row := range rows {
			if slices.ContainsFunc(row, func(v api.Value) bool { return v != num(k) }) {
				t.Errorf("%d turns: list %d is %v", turns, k, row)
			}
		}
	}
}

// P1: what is answered hangs on the arguments alone, even if others run at the same time.
func TestAtOnce(t *testing.T) {
	p := written(t, "fun 0 2 { set 0 50 while v0 { set 1 new4 say v0 go v0 set 0 - v0 1 } }")
	want, last := done(t, p, 9, api.MaxScript)
	var group sync.WaitGroup
	for range 8 {
		group.Go(func() {
			if said, s, err := Run(p, 9, api.MaxScript); err != api.OK || !slices.Equal(said, want) || !vm.Same(s, last) {
				t.Errorf("%v, %+v, %d", said, s, err)
			}
		})
	}
	group.Wait()
}
