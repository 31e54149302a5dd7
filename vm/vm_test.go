package vm

import (
	"math"
	"math/rand/v2"
	"reflect"
	"slices"
	"testing"

	"wanderer/api"
	"wanderer/code"
)

func ins(op, a, b, c int, args ...int) api.Ins {
	return api.Ins{Op: op, A: a, B: b, C: c, Args: args}
}

func proc(params, regs int, l ...api.Ins) api.Proc {
	return api.Proc{Params: params, Regs: regs, Code: l}
}

func procs(l ...api.Proc) []api.Proc { return l }

func num(n int) api.Value                 { return api.Value{Kind: api.Int, N: n} }
func ref(n int) api.Value                 { return api.Value{Kind: api.Ref, N: n} }
func row(l ...api.Value) []api.Value      { return l }
func rows(l ...[]api.Value) [][]api.Value { return l }

func frame(proc, at, to int, regs ...api.Value) api.Frame {
	return api.Frame{Proc: proc, At: at, Regs: regs, To: to}
}

func state(cells [][]api.Value, l ...api.Frame) api.State {
	return api.State{Frames: l, Cells: cells}
}

// as: s with another Status and Where.
func as(s api.State, status, where int) api.State {
	s.Status, s.Where = status, where
	return s
}

var (
	ret   = ins(api.IReturn, 0, 0, 0)
	pause = ins(api.IPause, 0, 0, 0)
	none  = api.Value{}
)

// wrongPrograms: programs, each with what chapter 4 says of it.
func wrongPrograms() map[api.Errno][]api.Proc {
	return map[api.Errno][]api.Proc{
		api.ErrMany:  nil,
		api.ErrRange: procs(proc(0, 0, ret)),
		api.ErrForm:  procs(proc(0, 1, pause)),
		api.ErrWho:   procs(proc(0, 1, ins(api.ICall, 0, 1, 0), ret)),
	}
}

// P6.1: a run begins with the first procedure, whatever there is besides.
func TestNew(t *testing.T) {
	for _, regs := range []int{1, 2, api.MaxRegs} {
		p := procs(proc(0, regs, pause, ret), proc(3, 7, ret))
		want := state(nil, frame(0, 0, 0, make([]api.Value, regs)...))
		s, err := New(p)
		if err != api.OK || !Same(s, want) || Check(p, s) != api.OK {
			t.Errorf("%d registers: %+v, %d, want %+v", regs, s, err, want)
		}
	}
	for want, p := range wrongPrograms() {
		if s, err := New(p); err != want || !reflect.DeepEqual(s, api.State{}) {
			t.Errorf("%+v: %+v, %d, want %d", p, s, err, want)
		}
	}
}

// sample: a program and a right state of it: three frames, three cells.
func sample() ([]api.Proc, api.State) {
	p := procs(proc(0, 2, ins(api.ICall, 1, 1, 0, 0), pause, ret), proc(1, 3, ins(api.ICall, 2, 2, 0), ret), proc(0, 1, pause, ret))
	s := state(rows(row(num(1), ref(2)), row(none), row(ref(0), num(-5), none, ref(2))),
		frame(0, 1, 0, ref(1), num(8)), frame(1, 1, 1, none, ref(0), num(api.MaxValue)), frame(2, 0, 2, ref(2)))
	return p, s
}

// numbers: where each number of a state is.
func numbers(s *api.State) []*int {
	l := []*int{&s.Status, &s.Where}
	values := func(row []api.Value) {
		for k := range row {
			l = append(l, &row[k].Kind, &row[k].N)
		}
	}
	for k := range s.Frames {
		f := &s.Frames[k]
		l = append(l, &f.Proc, &f.At, &f.To)
		values(f.Regs)
	}
	for _, fields := range s.Cells {
		values(fields)
	}
	return l
}

// said of a value, by the words of chapter 1.
func wrongValue(v api.Value, cells int) api.Errno {
	switch {
	case v.Kind != api.Nil && v.Kind != api.Int && v.Kind != api.Ref, v.Kind == api.Nil && v.N != 0:
		return api.ErrForm
	case v.Kind == api.Int && (v.N > api.MaxValue || v.N < -api.MaxValue):
		return api.ErrRange
	case v.Kind == api.Ref && (v.N >= cells || v.N < 0):
		return api.ErrWho
	}
	return api.OK
}

// reckoned: Check's error of a state of a right program: all that are told, in order, and the first of these.
func reckoned(p []api.Proc, s api.State) api.Errno {
	var told []api.Errno
	tell := func(err api.Errno, applies bool) {
		if applies {
			told = append(told, err)
		}
	}
	far := func(n int) bool { return n > api.MaxValue || n < -api.MaxValue }
	tell(api.ErrRange, !slices.Contains([]int{api.Ready, api.Ended, api.Failed, api.Going}, s.Status))
	tell(api.ErrRange, far(s.Where))
	tell(api.ErrForm, s.Status != api.Going && s.Where != 0)
	tell(api.ErrForm, s.Status == api.Ended && len(s.Frames) > 0)
	tell(api.ErrForm, s.Status != api.Ended && len(s.Frames) == 0)
	tell(api.ErrMany, len(s.Frames) > api.MaxFrames)
	tell(api.ErrMany, len(s.Cells) > api.MaxCells)
	for _, fields := range s.Cells {
		tell(api.ErrMany, len(fields) < 1 || len(fields) > api.MaxFields)
		for _, v := range fields {
			err := wrongValue(v, len(s.Cells))
			tell(err, err != api.OK)
		}
	}
	for k, f := range s.Frames {
		if f.Proc < 0 || f.Proc >= len(p) {
			tell(api.ErrWho, true)
			break
		}
		q := p[f.Proc]
		tell(api.ErrRange, f.At < 0 || f.At >= len(q.Code))
		tell(api.ErrRange, f.To < 0 || k == 0 && f.To > 0 || k > 0 && f.To >= len(s.Frames[max(k, 1)-1].Regs))
		tell(api.ErrForm, len(f.Regs) != q.Regs)
		for _, v := range f.Regs {
			err := wrongValue(v, len(s.Cells))
			tell(err, err != api.OK)
		}
	}
	return append(told, api.OK)[0]
}

// P6.1, P1: a right state in which one number is another one: near, at the limits, far off.
func TestCheckOneNumber(t *testing.T) {
	const most = api.MaxValue
	p, s := sample()
	if err := Check(p, s); err != api.OK {
		t.Fatalf("the state isn't right: %d", err)
	}
	seen := map[api.Errno]int{}
	for _, n := range numbers(&s) {
		was := *n
		for _, *n = range []int{-2, -1, 0, 1, 2, 3, 4, 5, -most - 1, -most, most, most + 1, math.MinInt, math.MaxInt} {
			got, want := Check(p, s), reckoned(p, s)
			seen[got]++
			if got != want {
				t.Errorf("%+v: %d, want %d", s, got, want)
			}
		}
		*n = was
	}
	if len(seen) != 4 {
		t.Errorf("errors that came: %v", seen)
	}
}

// P6.1: what a state may be, told by hand: Status, Where, how many there are of all.
func TestCheck(t *testing.T) {
	p, right := sample()
	deep := func(n int) api.State {
		return state(nil, append([]api.Frame{frame(2, 0, 0, none)}, slices.Repeat([]api.Frame{frame(2, 1, 0, none)}, n-1)...)...)
	}
	many := func(n int) api.State {
		return state(slices.Repeat(rows(row(none)), n), frame(2, 0, 0, none))
	}
	with := func(change func(s *api.State)) api.State {
		_, s := sample()
		change(&s)
		return s
	}
	for _, c := range []struct {
		name string
		s    api.State
		want api.Errno
	}{
		{"ready", right, api.OK},
		{"failed", as(right, api.Failed, 0), api.OK},
		{"going", as(right, api.Going, 2), api.OK},
		{"going to 0", as(right, api.Going, 0), api.OK},
		{"going far", as(right, api.Going, api.MaxValue), api.OK},
		{"going farther", as(right, api.Going, api.MaxValue+1), api.ErrRange},
		{"going far back", as(right, api.Going, -api.MaxValue), api.OK},
		{"going farther back", as(right, api.Going, -api.MaxValue-1), api.ErrRange},
		{"ready somewhere", as(right, api.Ready, 1), api.ErrForm},
		{"failed somewhere", as(right, api.Failed, -1), api.ErrForm},
		{"ready too far", as(right, api.Ready, api.MaxValue+1), api.ErrRange},
		{"status -1", as(right, -1, 0), api.ErrRange},
		{"status 4", as(right, 4, 0), api.ErrRange},
		{"ended with frames", as(right, api.Ended, 0), api.ErrForm},
		{"ended", as(state(nil), api.Ended, 0), api.OK},
		{"ended, with cells", as(state(right.Cells), api.Ended, 0), api.OK},
		{"ended, with a wrong cell", as(state(rows(row())), api.Ended, 0), api.ErrMany},
		{"ended somewhere", as(state(nil), api.Ended, 1), api.ErrForm},
		{"ready without frames", state(nil), api.ErrForm},
		{"failed without frames", as(state(nil), api.Failed, 0), api.ErrForm},
		{"going without frames", as(state(nil), api.Going, 1), api.ErrForm},
		{"one frame", deep(1), api.OK},
		{"most frames", deep(api.MaxFrames), api.OK},
		{"one frame more", deep(api.MaxFrames + 1), api.ErrMany},
		{"most cells", many(api.MaxCells), api.OK},
		{"one cell more", many(api.MaxCells + 1), api.ErrMany},
		{"first frame of another procedure", state(nil, frame(1, 0, 0, none, none, none)), api.OK},
		{"first frame with To", state(nil, frame(1, 0, 1, none, none, none)), api.ErrRange},
		{"first frame with To, one behind", state(nil, frame(2, 0, 1, none), frame(2, 0, 0, none)), api.ErrRange},
		{"To the last register", with(func(s *api.State) { s.Frames[2].To = 2 }), api.OK},
		{"To one behind", with(func(s *api.State) { s.Frames[2].To = 3 }), api.ErrRange},
		{"To by the frame ahead, not by its own", with(func(s *api.State) { s.Frames[1].To = 2 }), api.ErrRange},
		{"the last instruction", with(func(s *api.State) { s.Frames[0].At = 2 }), api.OK},
		{"behind the last instruction", with(func(s *api.State) { s.Frames[0].At = 3 }), api.ErrRange},
		{"At by its own procedure", with(func(s *api.State) { s.Frames[1].At = 2 }), api.ErrRange},
		{"no procedure", with(func(s *api.State) { s.Frames[2].Proc = 3 }), api.ErrWho},
		{"a register more", with(func(s *api.State) { s.Frames[0].Regs = append(s.Frames[0].Regs, none) }), api.ErrForm},
		{"a register less", with(func(s *api.State) { s.Frames[1].Regs = s.Frames[1].Regs[:2] }), api.ErrForm},
		{"no registers", with(func(s *api.State) { s.Frames[2].Regs = nil }), api.ErrForm},
		{"a cell that is none", with(func(s *api.State) { s.Frames[2].Regs[0] = ref(3) }), api.ErrWho},
		{"a cell less", with(func(s *api.State) { s.Cells = s.Cells[:2] }), api.ErrWho},
		{"a field that is none", with(func(s *api.State) { s.Cells[1][0] = ref(3) }), api.ErrWho},
		{"nothing with a number", with(func(s *api.State) { s.Frames[0].Regs[0] = api.Value{N: 1} }), api.ErrForm},
		{"no kind", with(func(s *api.State) { s.Frames[0].Regs[0] = api.Value{Kind: 3} }), api.ErrForm},
		{"too great a number", with(func(s *api.State) { s.Frames[0].Regs[0] = num(api.MaxValue + 1) }), api.ErrRange},
		{"a cell without fields", with(func(s *api.State) { s.Cells[1] = nil }), api.ErrMany},
		{"a cell of five", with(func(s *api.State) { s.Cells[1] = make([]api.Value, api.MaxFields+1) }), api.ErrMany},
	} {
		if got := Check(p, c.s); got != c.want || got != reckoned(p, c.s) {
			t.Errorf("%s: %d, want %d", c.name, got, c.want)
		}
	}
	for want, p := range wrongPrograms() {
		if got := Check(p, right); got != want {
			t.Errorf("%+v: %d, want %d", p, got, want)
		}
	}
}

// fault: a change that makes a state wrong, of something that no other change of the same name touches.
type fault struct {
	of    string
	err   api.Errno
	apply func(p []api.Proc, s *api.State)
}

// faults: of a program, and of a state of it, in the order in which Check tells them.
func faults() []fault {
	l := []fault{
		{"op", api.ErrForm, func(p []api.Proc, _ *api.State) { p[2].Code[0].Op = 99 }},
		{"status", api.ErrRange, func(_ []api.Proc, s *api.State) { s.Status = 4 }},
		{"where", api.ErrRange, func(_ []api.Proc, s *api.State) { s.Where = api.MaxValue + 1 }},
		{"where", api.ErrForm, func(_ []api.Proc, s *api.State) { s.Where = 1 }},
		{"status", api.ErrForm, func(_ []api.Proc, s *api.State) { s.Status = api.Ended }},
		{"frames", api.ErrMany, func(_ []api.Proc, s *api.State) {
			s.Frames = append(s.Frames, slices.Repeat([]api.Frame{frame(2, 0, 0, none)}, 8)...)
		}},
		{"cells", api.ErrMany, func(_ []api.Proc, s *api.State) { s.Cells = append(s.Cells, slices.Repeat(rows(row(none)), 22)...) }},
		{"cell 0", api.ErrRange, func(_ []api.Proc, s *api.State) { s.Cells[0][0] = num(api.MaxValue + 1) }},
		{"cell 0, 1", api.ErrWho, func(_ []api.Proc, s *api.State) { s.Cells[0][1] = ref(99) }},
		{"cell 1", api.ErrMany, func(_ []api.Proc, s *api.State) { s.Cells[1] = nil }},
		{"cell 2", api.ErrForm, func(_ []api.Proc, s *api.State) { s.Cells[2][2].N = 1 }},
	}
	for k := range 3 {
		of := func(what string) string { return what + string(rune('0'+k)) }
		l = append(l,
			fault{of("proc"), api.ErrWho, func(_ []api.Proc, s *api.State) { s.Frames[k].Proc = -1 }},
			fault{of("at"), api.ErrRange, func(_ []api.Proc, s *api.State) { s.Frames[k].At = -1 }},
			fault{of("to"), api.ErrRange, func(_ []api.Proc, s *api.State) { s.Frames[k].To = 3 }},
			fault{of("regs"), api.ErrForm, func(_ []api.Proc, s *api.State) { s.Frames[k].Regs = append(s.Frames[k].Regs, none) }},
			fault{of("reg"), api.ErrWho, func(_ []api.Proc, s *api.State) { s.Frames[k].Regs[0] = ref(-1) }},
		)
	}
	return l
}

// P6.1, P3: of each two faults the first one is told.
func TestCheckOrder(t *testing.T) {
	l := faults()
	for j, late := range l {
		for k, early := range l[:j+1] {
			if k < j && late.of == early.of {
				continue
			}
			p, s := sample()
			late.apply(p, &s)
			if k < j {
				early.apply(p, &s)
			}
			if got := Check(p, s); got != early.err {
				t.Errorf("%s (%d), %s (%d): %d", early.of, early.err, late.of, late.err, got)
			}
		}
	}
}

// P6.1: states that differ in one field; right or not.
func TestSame(t *testing.T) {
	other := func(change func(s *api.State)) api.State {
		_, s := sample()
		change(&s)
		return s
	}
	_, a := sample()
	_, b := sample()
	if !Same(a, b) || !Same(api.State{}, api.State{}) {
		t.Error("alike aren't")
	}
	if !Same(api.State{}, api.State{Frames: []api.Frame{}, Cells: rows()}) || !Same(state(rows(nil), frame(0, 0, 0)), state(rows(row()), api.Frame{Regs: row()})) {
		t.Error("nil and empty lists aren't alike")
	}
	odd := as(state(rows(row(), row(api.Value{Kind: 9, N: -9})), frame(-7, -8, -9, api.Value{Kind: -1})), 99, math.MinInt)
	if !Same(odd, as(state(rows(row(), row(api.Value{Kind: 9, N: -9})), frame(-7, -8, -9, api.Value{Kind: -1})), 99, math.MinInt)) {
		t.Error("alike that aren't right aren't")
	}
	changes := []api.State{
		{},
		odd,
		other(func(s *api.State) { s.Frames = s.Frames[:2] }),
		other(func(s *api.State) { s.Frames = append(s.Frames, api.Frame{}) }),
		other(func(s *api.State) { s.Frames[0], s.Frames[1] = s.Frames[1], s.Frames[0] }),
		other(func(s *api.State) { s.Frames[1].Regs = s.Frames[1].Regs[:2] }),
		other(func(s *api.State) { s.Frames[1].Regs = append(s.Frames[1].Regs, none) }),
		other(func(s *api.State) { s.Cells = s.Cells[:2] }),
		other(func(s *api.State) { s.Cells = append(s.Cells, row()) }),
		other(func(s *api.State) { s.Cells[0] = s.Cells[0][:1] }),
		other(func(s *api.State) { s.Cells[1] = append(s.Cells[1], none) }),
		other(func(s *api.State) { s.Cells[0], s.Cells[1] = s.Cells[1], s.Cells[0] }),
	}
	for k := range numbers(&a) {
		changes = append(changes, other(func(s *api.State) { *numbers(s)[k] += 1 }))
	}
	for k, s := range changes {
		if Same(a, s) || Same(s, a) {
			t.Errorf("change %d isn't seen", k)
		}
	}
}

// P6.2: what Sweep makes of states, told by hand.
func TestSweep(t *testing.T) {
	_, three := sample()
	for _, c := range []struct {
		name    string
		s, want api.State
	}{
		{"nothing", api.State{}, api.State{}},
		{"no cells", state(nil, frame(0, 1, 0, num(2), none)), state(nil, frame(0, 1, 0, num(2), none))},
		{"no frames", as(state(rows(row(ref(0)))), api.Ended, 0), as(state(nil), api.Ended, 0)},
		{"nothing leads to it", state(rows(row(num(1))), frame(0, 0, 0, num(0))), state(nil, frame(0, 0, 0, num(0)))},
		{"nothing but itself leads to it", state(rows(row(ref(0)), row(num(4))), frame(0, 0, 0, ref(1))), state(rows(row(num(4))), frame(0, 0, 0, ref(0)))},
		{"in order of registers", state(rows(row(num(10)), row(num(11)), row(num(12))), frame(0, 0, 0, ref(2), ref(0), ref(2), ref(1))),
			state(rows(row(num(12)), row(num(10)), row(num(11))), frame(0, 0, 0, ref(0), ref(1), ref(0), ref(2)))},
		{"frame by frame", three, state(rows(row(none), row(num(1), ref(2)), row(ref(1), num(-5), none, ref(2))),
			frame(0, 1, 0, ref(0), num(8)), frame(1, 1, 1, none, ref(1), num(api.MaxValue)), frame(2, 0, 2, ref(2)))},
		{"registers of later frames ahead of fields", state(rows(row(ref(1)), row(num(5)), row(num(6))), frame(0, 0, 0, ref(0)), frame(0, 0, 0, ref(2))),
			state(rows(row(ref(2)), row(num(6)), row(num(5))), frame(0, 0, 0, ref(0)), frame(0, 0, 0, ref(1)))},
		{"cell by cell", state(rows(row(num(0)), row(ref(0)), row(ref(4)), row(ref(1), ref(2)), row(ref(3))), frame(0, 0, 0, ref(3))),
			state(rows(row(ref(1), ref(2)), row(ref(3)), row(ref(4)), row(num(0)), row(ref(0))), frame(0, 0, 0, ref(0)))},
		{"numbers that look like cells", state(rows(row(none), row(num(1))), frame(0, 0, 0, num(1), ref(1))), state(rows(row(num(1))), frame(0, 0, 0, num(1), ref(0)))},
		{"what isn't right besides", as(state(rows(row(none), row(num(1))), frame(-7, -8, -9, ref(1)), frame(77, 88, 99)), 66, math.MaxInt),
			as(state(rows(row(num(1))), frame(-7, -8, -9, ref(0)), frame(77, 88, 99)), 66, math.MaxInt)},
	} {
		if got := Sweep(c.s); !Same(got, c.want) {
			t.Errorf("%s: %+v, want %+v", c.name, got, c.want)
		}
		if got := Sweep(Sweep(c.s)); !Same(got, c.want) {
			t.Errorf("%s: %+v if it is swept again", c.name, got)
		}
	}
}

// P6.2: of what Reach has an error of nothing changes.
func TestSweepWrong(t *testing.T) {
	wide := func(n int) api.State {
		return state(rows(row(num(1)), row(num(2))), frame(0, 0, 0, make([]api.Value, n-1)...), frame(0, 0, 0, ref(1)))
	}
	for _, c := range []struct {
		name string
		s    api.State
	}{
		{"too many registers", wide(api.MaxFrames*api.MaxRegs + 1)},
		{"too many cells", state(slices.Repeat(rows(row(num(1))), api.MaxCells+1), frame(0, 0, 0, ref(3)))},
		{"a cell without fields", state(rows(row(num(3)), row(), row(num(1))), frame(0, 0, 0, ref(2)))},
		{"a cell of five, to which nothing leads", state(rows(make([]api.Value, 5), row(num(1))), frame(0, 0, 0, ref(1)))},
		{"a field that is none", state(rows(row(ref(2)), row(num(1))), frame(0, 0, 0, ref(1)))},
		{"a register that is none", state(rows(row(num(0)), row(num(1))), frame(0, 0, 0, ref(1), ref(2)))},
		{"a register below", state(rows(row(num(0)), row(num(1))), frame(0, 0, 0, ref(1), ref(math.MinInt)))},
		{"no kind", state(rows(row(num(0)), row(num(1))), frame(0, 0, 0, ref(1), api.Value{Kind: 3}))},
		{"nothing with a number", state(rows(row(num(0)), row(num(1))), frame(0, 0, 0, ref(1), api.Value{N: 1}))},
		{"too great a number", state(rows(row(num(0)), row(num(1))), frame(0, 0, 0, ref(1)), frame(0, 0, 0, num(api.MaxValue+1)))},
	} {
		if got := Sweep(c.s); !Same(got, c.s) {
			t.Errorf("%s: %+v, want %+v", c.name, got, c.s)
		}
	}
	want := wide(api.MaxFrames * api.MaxRegs)
	want.Cells, want.Frames[1].Regs[0] = rows(row(num(2))), ref(0)
	if got := Sweep(wide(api.MaxFrames * api.MaxRegs)); !Same(got, want) {
		t.Error("as many registers as there may be aren't swept")
	}
}

// P6.4: who is going is ready then, and all else as it was; others are out of turn.
func TestWake(t *testing.T) {
	p, s := sample()
	for _, where := range []int{0, 1, -3, api.MaxValue} {
		got, err := Wake(p, as(s, api.Going, where))
		if err != api.OK || !Same(got, s) {
			t.Errorf("going to %d: %+v, %d, want %+v", where, got, err, s)
		}
	}
	for _, c := range []struct {
		name string
		s    api.State
		want api.Errno
	}{
		{"ready", s, api.ErrLate},
		{"failed", as(s, api.Failed, 0), api.ErrLate},
		{"ended", as(state(nil), api.Ended, 0), api.ErrLate},
		{"ready somewhere", as(s, api.Ready, 1), api.ErrForm},
		{"going too far", as(s, api.Going, api.MaxValue+1), api.ErrRange},
		{"no status", as(s, 4, 0), api.ErrRange},
		{"going without frames", as(state(nil), api.Going, 1), api.ErrForm},
		{"of another procedure", as(state(nil, frame(3, 0, 0, none)), api.Going, 1), api.ErrWho},
		{"ready, of another procedure", state(nil, frame(3, 0, 0, none)), api.ErrWho},
	} {
		if got, err := Wake(p, c.s); err != c.want || !reflect.DeepEqual(got, api.State{}) {
			t.Errorf("%s: %+v, %d, want %d", c.name, got, err, c.want)
		}
	}
	for want, p := range wrongPrograms() {
		if got, err := Wake(p, as(s, api.Going, 1)); err != want || !reflect.DeepEqual(got, api.State{}) {
			t.Errorf("%+v: %+v, %d, want %d", p, got, err, want)
		}
	}
}

// roomy: a copy of l with something in the spare room behind it.
func roomy[T any](l []T, mark T) []T {
	return append(slices.Clone(l), mark, mark)[:len(l)]
}

// roomyState: a copy of s, with something behind each of its lists.
func roomyState(s api.State) api.State {
	s.Frames = roomy(s.Frames, frame(77, 77, 77))
	for k, f := range s.Frames {
		s.Frames[k].Regs = roomy(f.Regs, num(77))
	}
	s.Cells = roomy(s.Cells, row(num(77)))
	for k, fields := range s.Cells {
		s.Cells[k] = roomy(fields, num(77))
	}
	return s
}

// roomyProcs: a copy of p, with something behind each of its lists.
func roomyProcs(p []api.Proc) []api.Proc {
	p = roomy(p, proc(77, 77))
	for k := range p {
		p[k].Code = roomy(p[k].Code, ins(77, 0, 0, 0))
		for j := range p[k].Code {
			p[k].Code[j].Args = roomy(p[k].Code[j].Args, 77)
		}
	}
	return p
}

// wholeOf: all lists of a program and a state, with the spare room behind them.
func wholeOf(p []api.Proc, s api.State) []any {
	l := []any{p[:cap(p)], s.Frames[:cap(s.Frames)], s.Cells[:cap(s.Cells)]}
	for _, q := range p {
		l = append(l, q.Code[:cap(q.Code)])
		for _, i := range q.Code {
			l = append(l, i.Args[:cap(i.Args)])
		}
	}
	for _, f := range s.Frames {
		l = append(l, f.Regs[:cap(f.Regs)])
	}
	for _, fields := range s.Cells {
		l = append(l, fields[:cap(fields)])
	}
	return l
}

// spoil: all numbers of a state become others, and those in the spare room.
func spoil(s api.State) {
	spoilRow := func(row []api.Value) {
		row = row[:cap(row)]
		for k := range row {
			row[k] = api.Value{Kind: 55, N: 55}
		}
	}
	for _, f := range s.Frames {
		spoilRow(f.Regs)
	}
	for _, fields := range s.Cells {
		spoilRow(fields)
	}
	for k := range s.Frames[:cap(s.Frames)] {
		s.Frames[:cap(s.Frames)][k] = frame(55, 55, 55)
	}
	for k := range s.Cells[:cap(s.Cells)] {
		s.Cells[:cap(s.Cells)][k] = nil
	}
}

// apart: no two rows of a state share memory, not even behind their ends.
func apart(s api.State) bool {
	var l [][]api.Value
	for _, f := range s.Frames {
		l = append(l, f.Regs[:cap(f.Regs)])
	}
	for _, fields := range s.Cells {
		l = append(l, fields[:cap(fields)])
	}
	for k, row := range l {
		for j := range row {
			row[j].Kind = k
		}
	}
	for k, row := range l {
		if slices.ContainsFunc(row, func(v api.Value) bool { return v.Kind != k }) {
			return false
		}
	}
	return true
}

// calls: what can be asked of a state, with an answer that is one.
func calls(fuel int) map[string]func(p []api.Proc, s api.State) api.State {
	return map[string]func(p []api.Proc, s api.State) api.State{
		"New":   func(p []api.Proc, _ api.State) api.State { s, _ := New(p); return s },
		"Sweep": func(_ []api.Proc, s api.State) api.State { return Sweep(s) },
		"Run":   func(p []api.Proc, s api.State) api.State { s, _, _, _ = Run(p, s, fuel); return s },
		"Wake":  func(p []api.Proc, s api.State) api.State { s, _ = Wake(p, as(s, api.Going, 1)); return s },
		"Check, Same": func(p []api.Proc, s api.State) api.State {
			if Check(p, s) != api.OK || !Same(s, s) {
				return api.State{}
			}
			return copied(s)
		},
	}
}

// P2: what is handed in is only read, and not kept: random programs and states, with something behind each list.
func TestMemory(t *testing.T) {
	w := &maker{Rand: rand.New(rand.NewPCG(6, 2))}
	for range 300 {
		p := w.program()
		s := w.state(p)
		for name, call := range calls(w.IntN(100)) {
			program, given := roomyProcs(p), roomyState(s)
			had := wholeOf(roomyProcs(p), roomyState(s))
			got := call(program, given)
			again := call(program, given)
			if !Same(got, again) {
				t.Fatalf("%s: asked twice it answers two things", name)
			}
			spoil(again)
			if !reflect.DeepEqual(wholeOf(program, given), had) {
				t.Fatalf("%s: what was handed in was changed: %+v", name, s)
			}
			if !apart(got) {
				t.Fatalf("%s: lists of the answer share memory: %+v", name, s)
			}
		}
	}
}

// P2: lists of a state may be one; what is done to one of them is done to none of the others.
func TestSharedLists(t *testing.T) {
	p := procs(proc(0, 2, ins(api.INum, 0, 5, 0), ins(api.IPut, 1, 0, 0), ret))
	regs, fields := row(none, ref(1)), row(none)
	s := state(rows(fields, fields), frame(0, 0, 0, regs...), frame(0, 0, 0, regs...))
	s.Frames[0].Regs = s.Frames[1].Regs
	got, _, n, err := Run(p, s, 2)
	want := state(rows(row(none), row(num(5))), frame(0, 0, 0, none, ref(1)), frame(0, 2, 0, num(5), ref(1)))
	if err != api.OK || n != 2 || !Same(got, want) {
		t.Errorf("%+v, %d, %d, want %+v", got, n, err, want)
	}
	both := append(slices.Repeat(row(none), 1), ref(0))
	s = state(rows(both[:1], both[1:]), frame(0, 1, 0, num(9), ref(0)))
	got, _, _, err = Run(p, s, 1)
	if err != api.OK || !Same(got, state(rows(row(num(9)), row(ref(0))), frame(0, 2, 0, num(9), ref(0)))) {
		t.Errorf("%+v, %d", got, err)
	}
	s = state(rows(fields, both, both), frame(0, 0, 0, ref(2), ref(1)), frame(0, 0, 0, ref(2), ref(1)))
	s.Cells[2] = s.Cells[1]
	want = state(rows(row(none, ref(2)), row(none, ref(2)), row(none)), frame(0, 0, 0, ref(0), ref(1)), frame(0, 0, 0, ref(0), ref(1)))
	if got := Sweep(s); !Same(got, want) || !apart(got) {
		t.Errorf("%+v, want %+v", got, want)
	}
}

// What chapter 4 says of programs is asked of it: the sample is right there.
func TestSamples(t *testing.T) {
	p, _ := sample()
	if err := code.Check(p); err != api.OK {
		t.Error(err)
	}
	for want, p := range wrongPrograms() {
		if err := code.Check(p); err != want {
			t.Errorf("%+v: %d, want %d", p, err, want)
		}
	}
}
