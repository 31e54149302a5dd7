package vm

import (
	"math"
	"reflect"
	"slices"
	"strconv"
	"strings"
	"testing"

	"wanderer/api"
)

// tell: a value as a word.
func tell(v api.Value) string {
	switch v.Kind {
	case api.Nil:
		return "-"
	case api.Ref:
		return "c" + strconv.Itoa(v.N)
	}
	return strconv.Itoa(v.N)
}

// tellRow: values as words.
func tellRow(l []api.Value) string {
	var words []string
	for _, v := range l {
		words = append(words, tell(v))
	}
	return strings.Join(words, " ")
}

// changes: what of a state has become another, in words: of the status, of where it is, of frames, registers, cells, fields.
func changes(a, b api.State) string {
	var words []string
	note := func(what string, is, was string) {
		if is != was {
			words = append(words, what+" "+is)
		}
	}
	itoa := strconv.Itoa
	note("status", itoa(b.Status), itoa(a.Status))
	note("where", itoa(b.Where), itoa(a.Where))
	note("frames", itoa(len(b.Frames)), itoa(len(a.Frames)))
	for k, f := range b.Frames {
		name, was := "f"+itoa(k), api.Frame{Proc: -1, At: -1, To: -1}
		if k < len(a.Frames) {
			was = a.Frames[k]
		}
		note(name+".proc", itoa(f.Proc), itoa(was.Proc))
		note(name+".at", itoa(f.At), itoa(was.At))
		note(name+".to", itoa(f.To), itoa(was.To))
		if len(f.Regs) != len(was.Regs) {
			note(name+":", tellRow(f.Regs), "")
			continue
		}
		for j, v := range f.Regs {
			note(name+"."+itoa(j), tell(v), tell(was.Regs[j]))
		}
	}
	note("cells", itoa(len(b.Cells)), itoa(len(a.Cells)))
	for k, fields := range b.Cells {
		was := ""
		if k < len(a.Cells) {
			was = tellRow(a.Cells[k])
		}
		note("c"+itoa(k)+":", tellRow(fields), was)
	}
	return strings.Join(words, ", ")
}

// at: a program with i as its second instruction, and a state ahead of that: registers with numbers, nothing, cells.
func at(i api.Ins) ([]api.Proc, api.State) {
	p := procs(proc(0, 7, pause, i, pause, pause, ret), proc(1, 2, ret), proc(3, 5, pause, ret))
	s := state(rows(row(num(4), none), row(ref(0), ref(1), none, num(-6)), row(none)),
		frame(0, 1, 0, num(7), num(-3), none, ref(0), ref(1), num(0), num(api.MaxValue)))
	return p, s
}

const (
	fails = "status 2"
	next  = "f0.at 2"
)

// P6.3: each kind of instruction: what one step changes, and what it says.
func TestInstructions(t *testing.T) {
	const most = "1000000000"
	for _, c := range []struct {
		name string
		i    api.Ins
		want string
		said []int
	}{
		{"number", ins(api.INum, 2, 12, 0), next + ", f0.2 12", nil},
		{"number in the place of a cell", ins(api.INum, 3, -api.MaxValue, 0), next + ", f0.3 -" + most, nil},
		{"move of a number", ins(api.IMove, 2, 0, 0), next + ", f0.2 7", nil},
		{"move of a cell", ins(api.IMove, 0, 4, 0), next + ", f0.0 c1", nil},
		{"move of nothing", ins(api.IMove, 0, 2, 0), next + ", f0.0 -", nil},
		{"move of itself", ins(api.IMove, 6, 6, 0), next, nil},

		{"plus", ins(api.IOp, 2, 0, 1, api.Plus), next + ", f0.2 4", nil},
		{"minus", ins(api.IOp, 2, 0, 1, api.Minus), next + ", f0.2 10", nil},
		{"minus, turned", ins(api.IOp, 0, 1, 0, api.Minus), next + ", f0.0 -10", nil},
		{"times", ins(api.IOp, 1, 0, 1, api.Times), next + ", f0.1 -21", nil},
		{"less", ins(api.IOp, 2, 1, 0, api.Less), next + ", f0.2 1", nil},
		{"not less", ins(api.IOp, 2, 0, 1, api.Less), next + ", f0.2 0", nil},
		{"not less than itself", ins(api.IOp, 2, 0, 0, api.Less), next + ", f0.2 0", nil},
		{"same", ins(api.IOp, 2, 0, 0, api.Same), next + ", f0.2 1", nil},
		{"not the same", ins(api.IOp, 2, 0, 1, api.Same), next + ", f0.2 0", nil},
		{"same cell", ins(api.IOp, 0, 4, 4, api.Same), next + ", f0.0 1", nil},
		{"another cell", ins(api.IOp, 0, 3, 4, api.Same), next + ", f0.0 0", nil},
		{"same nothing", ins(api.IOp, 2, 2, 2, api.Same), next + ", f0.2 1", nil},
		{"nothing and 0", ins(api.IOp, 0, 2, 5, api.Same), next + ", f0.0 0", nil},
		{"cell 0 and 0", ins(api.IOp, 0, 3, 5, api.Same), next + ", f0.0 0", nil},
		{"greatest plus 0", ins(api.IOp, 2, 6, 5, api.Plus), next + ", f0.2 " + most, nil},
		{"greatest plus 7", ins(api.IOp, 2, 6, 0, api.Plus), fails, nil},
		{"0 minus greatest", ins(api.IOp, 2, 5, 6, api.Minus), next + ", f0.2 -" + most, nil},
		{"-3 minus greatest", ins(api.IOp, 2, 1, 6, api.Minus), fails, nil},
		{"greatest times 0", ins(api.IOp, 2, 6, 5, api.Times), next + ", f0.2 0", nil},
		{"greatest times greatest", ins(api.IOp, 2, 6, 6, api.Times), fails, nil},
		{"greatest times -3", ins(api.IOp, 2, 6, 1, api.Times), fails, nil},
		{"plus of nothing", ins(api.IOp, 2, 0, 2, api.Plus), fails, nil},
		{"minus of a cell", ins(api.IOp, 2, 3, 0, api.Minus), fails, nil},
		{"times of cells", ins(api.IOp, 2, 3, 3, api.Times), fails, nil},
		{"less of nothing", ins(api.IOp, 2, 2, 0, api.Less), fails, nil},
		{"less of a cell", ins(api.IOp, 2, 0, 4, api.Less), fails, nil},

		{"get", ins(api.IGet, 2, 3, 0), next + ", f0.2 4", nil},
		{"get nothing", ins(api.IGet, 0, 3, 1), next + ", f0.0 -", nil},
		{"get a cell", ins(api.IGet, 4, 4, 0), next + ", f0.4 c0", nil},
		{"get the last field", ins(api.IGet, 0, 4, 3), next + ", f0.0 -6", nil},
		{"get a field that isn't there", ins(api.IGet, 0, 3, 2), fails, nil},
		{"get of a number", ins(api.IGet, 0, 5, 0), fails, nil},
		{"get of nothing", ins(api.IGet, 0, 2, 0), fails, nil},
		{"new", ins(api.INew, 2, 1, 0), next + ", f0.2 c3, cells 4, c3: -", nil},
		{"greatest new", ins(api.INew, 4, 4, 0), next + ", f0.4 c3, cells 4, c3: - - - -", nil},
		{"put a number", ins(api.IPut, 3, 0, 1), next + ", c0: 4 7", nil},
		{"put nothing", ins(api.IPut, 4, 2, 3), next + ", c1: c0 c1 - -", nil},
		{"put a cell in itself", ins(api.IPut, 3, 3, 0), next + ", c0: c0 -", nil},
		{"put in a field that isn't there", ins(api.IPut, 3, 0, 2), fails, nil},
		{"put in a number", ins(api.IPut, 5, 3, 0), fails, nil},
		{"put in nothing", ins(api.IPut, 2, 3, 0), fails, nil},

		{"call of one", ins(api.ICall, 6, 1, 0, 4), "frames 2, " + next + ", f1.proc 1, f1.at 0, f1.to 6, f1: c1 -", nil},
		{"call of three", ins(api.ICall, 0, 2, 0, 0, 3, 0), "frames 2, " + next + ", f1.proc 2, f1.at 0, f1.to 0, f1: 7 c0 7 - -", nil},
		{"call of itself", ins(api.ICall, 1, 0, 0), "frames 2, " + next + ", f1.proc 0, f1.at 0, f1.to 1, f1: - - - - - - -", nil},
		{"return", ins(api.IReturn, 3, 0, 0), "status 1, frames 0", nil},
		{"say", ins(api.ISay, 1, 0, 0), next, []int{-3}},
		{"say 0", ins(api.ISay, 5, 0, 0), next, []int{0}},
		{"say nothing", ins(api.ISay, 2, 0, 0), fails, nil},
		{"say a cell", ins(api.ISay, 3, 0, 0), fails, nil},
		{"pause", pause, next, nil},
		{"go", ins(api.IGo, 0, 0, 0), "status 3, where 7, " + next, nil},
		{"go to 0", ins(api.IGo, 5, 0, 0), "status 3, " + next, nil},
		{"go far", ins(api.IGo, 6, 0, 0), "status 3, where " + most + ", " + next, nil},
		{"go to nothing", ins(api.IGo, 2, 0, 0), fails, nil},
		{"go to a cell", ins(api.IGo, 4, 0, 0), fails, nil},
		{"jump", ins(api.IJump, 0, 4, 0), "f0.at 4", nil},
		{"jump back", ins(api.IJump, 0, 0, 0), "f0.at 0", nil},
		{"jump to itself", ins(api.IJump, 0, 1, 0), "", nil},
		{"zero of 0", ins(api.IZero, 5, 4, 0), "f0.at 4", nil},
		{"zero of nothing", ins(api.IZero, 2, 0, 0), "f0.at 0", nil},
		{"zero of 7", ins(api.IZero, 0, 4, 0), next, nil},
		{"zero of -3", ins(api.IZero, 1, 4, 0), next, nil},
		{"zero of cell 0", ins(api.IZero, 3, 4, 0), next, nil},
	} {
		p, s := at(c.i)
		got, said, n, err := Run(p, s, 1)
		if told := changes(s, got); err != api.OK || n != 1 || told != c.want || !slices.Equal(said, c.said) {
			t.Errorf("%s: %q, said %v, %d steps, %d, want %q, %v", c.name, told, said, n, err, c.want, c.said)
		}
		if err := Check(p, got); err != api.OK {
			t.Errorf("%s: the state isn't right then: %d", c.name, err)
		}
		more, _, n, err := Run(p, s, 2)
		stops := got.Status != api.Ready || c.i.Op == api.IPause
		if err != api.OK || stops != (n == 1) || stops && !Same(more, got) {
			t.Errorf("%s: with fuel 2: %q, %d steps, %d", c.name, changes(got, more), n, err)
		}
	}
}

// P6.3: what returns from a frame comes to the one ahead, with its To, and that goes on.
func TestReturns(t *testing.T) {
	p := procs(
		proc(0, 3, ins(api.INum, 0, 5, 0), ins(api.ICall, 2, 1, 0, 0), ins(api.ISay, 2, 0, 0), ins(api.IReturn, 1, 0, 0)),
		proc(1, 2, ins(api.ICall, 1, 2, 0, 0, 0), ins(api.ISay, 1, 0, 0), ins(api.IReturn, 0, 0, 0)),
		proc(2, 2, ins(api.IOp, 0, 0, 1, api.Times), ins(api.IReturn, 0, 0, 0)))
	s, _ := New(p)
	for k, want := range []string{
		"f0.at 1, f0.0 5",
		"frames 2, f0.at 2, f1.proc 1, f1.at 0, f1.to 2, f1: 5 -",
		"frames 3, f1.at 1, f2.proc 2, f2.at 0, f2.to 1, f2: 5 5",
		"f2.at 1, f2.0 25",
		"frames 2, f1.1 25",
		"f1.at 2",
		"frames 1, f0.2 5",
		"f0.at 3",
		"status 1, frames 0",
	} {
		got, said, n, err := Run(p, s, 1)
		wantSaid := map[int][]int{5: {25}, 7: {5}}[k]
		if told := changes(s, got); told != want || n != 1 || err != api.OK || !slices.Equal(said, wantSaid) {
			t.Fatalf("step %d: %q, said %v, %d steps, %d, want %q, %v", k, told, said, n, err, want, wantSaid)
		}
		s = got
	}
	if _, _, _, err := Run(p, s, 1); err != api.ErrLate {
		t.Errorf("it has ended: %d", err)
	}
}

// P6.3: what Run is told to refuse, and which of its errors comes first.
func TestRunWrong(t *testing.T) {
	p, s := sample()
	for _, c := range []struct {
		name string
		s    api.State
		fuel int
		want api.Errno
	}{
		{"fuel -1", s, -1, api.ErrRange},
		{"one more than the most", s, api.MaxFuel + 1, api.ErrRange},
		{"greatest fuel", s, math.MaxInt, api.ErrRange},
		{"least fuel", s, math.MinInt, api.ErrRange},
		{"failed", as(s, api.Failed, 0), 1, api.ErrLate},
		{"ended", as(state(nil), api.Ended, 0), 1, api.ErrLate},
		{"going", as(s, api.Going, 0), 1, api.ErrLate},
		{"going, without fuel", as(s, api.Going, 2), 0, api.ErrLate},
		{"ended, too much fuel", as(state(nil), api.Ended, 0), api.MaxFuel + 1, api.ErrRange},
		{"ready somewhere, too much fuel", as(s, api.Ready, 1), api.MaxFuel + 1, api.ErrForm},
		{"failed somewhere", as(s, api.Failed, 1), 1, api.ErrForm},
		{"no status", as(s, 4, 0), 1, api.ErrRange},
		{"no frames", state(nil), 1, api.ErrForm},
		{"no procedure, too much fuel", state(nil, frame(3, 0, 0)), -1, api.ErrWho},
	} {
		if got, said, n, err := Run(p, c.s, c.fuel); err != c.want || !reflect.DeepEqual(got, api.State{}) || said != nil || n != 0 {
			t.Errorf("%s: %+v, %v, %d, %d, want %d", c.name, got, said, n, err, c.want)
		}
	}
	for want, p := range wrongPrograms() {
		if got, said, n, err := Run(p, as(s, 4, 0), -1); err != want || !reflect.DeepEqual(got, api.State{}) || said != nil || n != 0 {
			t.Errorf("%+v: %+v, %v, %d, %d, want %d", p, got, said, n, err, want)
		}
	}
}

// P6.3: no fuel, some, all, of a run that would go on.
func TestFuel(t *testing.T) {
	p := procs(proc(0, 1, ins(api.IMove, 0, 0, 0), ins(api.INum, 0, 3, 0), ins(api.IJump, 0, 0, 0)))
	s, _ := New(p)
	for _, fuel := range []int{0, 1, 2, 3, 4, 100, api.MaxFuel - 1, api.MaxFuel} {
		got, said, n, err := Run(p, s, fuel)
		if err != api.OK || n != fuel || len(said) != 0 || got.Frames[0].At != fuel%3 || got.Status != api.Ready {
			t.Errorf("fuel %d: %+v, %v, %d steps, %d", fuel, got, said, n, err)
		}
	}
	if got, _, _, _ := Run(p, s, 0); !Same(got, s) {
		t.Errorf("without fuel: %+v", got)
	}
}

// P6.3: a step that pauses or goes is the last of a slice; so is one with which it ends or fails.
func TestSliceEnds(t *testing.T) {
	say, one := ins(api.ISay, 0, 0, 0), ins(api.INum, 0, 1, 0)
	for _, c := range []struct {
		name   string
		last   api.Ins
		status int
	}{
		{"pauses", pause, api.Ready},
		{"goes", ins(api.IGo, 0, 0, 0), api.Going},
		{"fails", ins(api.ISay, 1, 0, 0), api.Failed},
		{"ends", ret, api.Ended},
	} {
		p := procs(proc(0, 2, one, say, c.last, say, say, ret))
		s, _ := New(p)
		got, said, n, err := Run(p, s, api.MaxFuel)
		if err != api.OK || n != 3 || got.Status != c.status || !slices.Equal(said, []int{1}) {
			t.Errorf("it %s: %+v, %v, %d, %d", c.name, got, said, n, err)
		}
		exact, _, n, _ := Run(p, s, 3)
		if n != 3 || !Same(exact, got) {
			t.Errorf("it %s, with just so much fuel: %+v, %d", c.name, exact, n)
		}
	}
	p := procs(proc(0, 2, one, pause, pause, say, ret))
	s, _ := New(p)
	for _, want := range []int{2, 1, 2} {
		got, _, n, err := Run(p, s, api.MaxFuel)
		if err != api.OK || n != want {
			t.Errorf("a slice of %d steps, %d, want %d", n, err, want)
		}
		s = got
	}
	if s.Status != api.Ended {
		t.Errorf("%+v", s)
	}
}

// P6.3: a slice says so much, and ends ahead of what says more, right or not; all else goes on.
func TestSays(t *testing.T) {
	say := ins(api.ISay, 0, 0, 0)
	// after: a program that says 1 n times, and goes on with l.
	after := func(n int, l ...api.Ins) []api.Proc {
		return procs(proc(0, 2, slices.Concat([]api.Ins{ins(api.INum, 0, 1, 0)}, slices.Repeat([]api.Ins{say}, n), l, []api.Ins{ret})...))
	}
	const most = api.MaxSays
	for _, c := range []struct {
		name   string
		p      []api.Proc
		said   []int // slice by slice
		steps  []int
		status int
	}{
		{"one less", after(most - 1), []int{most - 1}, []int{most + 1}, api.Ended},
		{"just so many", after(most), []int{most}, []int{most + 2}, api.Ended},
		{"one more", after(most + 1), []int{most, 1}, []int{most + 1, 2}, api.Ended},
		{"twice", after(2 * most), []int{most, most}, []int{most + 1, most + 1}, api.Ended},
		{"twice and one more", after(2*most + 1), []int{most, most, 1}, []int{most + 1, most, 2}, api.Ended},
		{"just so many, and a pause", after(most, pause), []int{most, 0}, []int{most + 2, 1}, api.Ended},
		{"just so many, and it goes on", after(most, ins(api.IMove, 1, 0, 0), ins(api.IMove, 1, 0, 0), say), []int{most, 1}, []int{most + 3, 2}, api.Ended},
		{"one more that fails", after(most, ins(api.ISay, 1, 0, 0)), []int{most, 0}, []int{most + 1, 1}, api.Failed},
		{"one less, and one that fails", after(most-1, ins(api.ISay, 1, 0, 0)), []int{most - 1}, []int{most + 1}, api.Failed},
		{"just so many, and something else fails", after(most, ins(api.IGo, 1, 0, 0)), []int{most}, []int{most + 2}, api.Failed},
	} {
		s, _ := New(c.p)
		for k, want := range c.said {
			if s.Status != api.Ready {
				t.Fatalf("%s: it is over ahead of slice %d", c.name, k)
			}
			got, said, n, err := Run(c.p, s, api.MaxFuel)
			if err != api.OK || n != c.steps[k] || !slices.Equal(said, slices.Repeat([]int{1}, want)) {
				t.Errorf("%s: slice %d: said %v, %d steps, %d, want %d, %d", c.name, k, said, n, err, want, c.steps[k])
			}
			s = got
		}
		if s.Status != c.status {
			t.Errorf("%s: status %d, want %d", c.name, s.Status, c.status)
		}
	}
}

// P6.3: as many frames as there may be, and one more.
func TestFrames(t *testing.T) {
	// Procedure 1 calls itself so often as its argument says, and counts.
	p := func(n int) []api.Proc {
		return procs(
			proc(0, 1, ins(api.INum, 0, n, 0), ins(api.ICall, 0, 1, 0, 0), ins(api.ISay, 0, 0, 0), ret),
			proc(1, 2, ins(api.IZero, 0, 5, 0), ins(api.INum, 1, 1, 0), ins(api.IOp, 0, 0, 1, api.Minus), ins(api.ICall, 0, 1, 0, 0), ins(api.IOp, 0, 0, 1, api.Plus), ins(api.IReturn, 0, 0, 0)))
	}
	s, _ := New(p(api.MaxFrames - 2))
	got, said, _, err := Run(p(api.MaxFrames-2), s, api.MaxFuel)
	if err != api.OK || got.Status != api.Ended || !slices.Equal(said, []int{api.MaxFrames - 2}) {
		t.Errorf("most frames: %+v, %v, %d", got, said, err)
	}
	more := p(api.MaxFrames - 1)
	got, said, n, err := Run(more, s, api.MaxFuel)
	if err != api.OK || got.Status != api.Failed || len(got.Frames) != api.MaxFrames || len(said) != 0 {
		t.Fatalf("one more: %+v, %v, %d", got, said, err)
	}
	ahead, _, _, _ := Run(more, s, n-1)
	if told := changes(ahead, got); told != fails || ahead.Frames[api.MaxFrames-1].At != 3 {
		t.Errorf("one more changes %q", told)
	}
}

// chain: n cells, each with the one ahead of it, and the last one's number.
func chain(n int) ([][]api.Value, int) {
	cells := rows(row(none))
	for k := range n - 1 {
		cells = append(cells, row(ref(k)))
	}
	return cells, n - 1
}

// P6.3: there is room for so many cells; if it is full it is swept, and not else.
func TestCells(t *testing.T) {
	const most = api.MaxCells
	p := procs(proc(0, 2, ins(api.INew, 1, 2, 0), ret))
	full, last := chain(most)
	fewer, end := chain(most - 1)
	apart := append(slices.Clone(full[:most-1]), row(num(5)))
	first := append(rows(row(num(5))), slices.Repeat(rows(row(ref(0), ref(1))), most-1)...)
	// swept is what chain has become when the last one comes first.
	swept := func(n int) [][]api.Value {
		var l [][]api.Value
		for k := range n - 1 {
			l = append(l, row(ref(k+1)))
		}
		return append(l, row(none))
	}
	nothing := slices.Repeat(rows(row(ref(0))), most)
	for _, c := range []struct {
		name    string
		s, want api.State
	}{
		{"one less", state(fewer, frame(0, 0, 0, ref(end), none)), state(append(slices.Clone(fewer), row(none, none)), frame(0, 1, 0, ref(end), ref(most-1)))},
		{"one less, to which nothing leads", state(nothing[1:], frame(0, 0, 0, none, none)), state(append(slices.Clone(nothing[1:]), row(none, none)), frame(0, 1, 0, none, ref(most-1)))},
		{"nothing leads to them", state(nothing, frame(0, 0, 0, none, none)), state(rows(row(none, none)), frame(0, 1, 0, none, ref(0)))},
		{"nothing leads to one", state(apart, frame(0, 0, 0, ref(most-2), num(3))), state(append(swept(most-1), row(none, none)), frame(0, 1, 0, ref(0), ref(most-1)))},
		{"nothing leads to the first", state(full, frame(0, 0, 0, none, ref(4))), state(append(swept(5), row(none, none)), frame(0, 1, 0, none, ref(5)))},
		{"nothing leads to most", state(first, frame(0, 0, 0, ref(1), none)), state(rows(row(ref(1), ref(0)), row(num(5)), row(none, none)), frame(0, 1, 0, ref(0), ref(2)))},
		{"all are led to", state(full, frame(0, 0, 0, ref(last), none)), as(state(full, frame(0, 0, 0, ref(last), none)), api.Failed, 0)},
		{"all are led to by what will be the new one", state(full, frame(0, 0, 0, none, ref(last))), as(state(full, frame(0, 0, 0, none, ref(last))), api.Failed, 0)},
	} {
		got, said, n, err := Run(p, c.s, 1)
		if err != api.OK || n != 1 || len(said) != 0 || !Same(got, c.want) {
			t.Errorf("%s: %q, %d steps, %d, want %q", c.name, changes(c.s, got), n, err, changes(c.s, c.want))
		}
	}
	s := state(full, frame(0, 1, 0, none, none), frame(0, 0, 1, ref(last), none))
	if got, _, _, _ := Run(p, s, 9); !Same(got, as(s, api.Failed, 0)) {
		t.Errorf("in the last of two frames: %q", changes(s, got))
	}
	s = state(full, frame(0, 1, 0, none, ref(last)), frame(0, 0, 1, none, none))
	if got, _, _, _ := Run(p, s, 9); !Same(got, as(s, api.Failed, 0)) {
		t.Errorf("led to by the frame ahead: %q", changes(s, got))
	}
}

// P6.3: a cell that lives through Sweeps is the same one for all that lead to it.
func TestCellsAgain(t *testing.T) {
	p := procs(proc(0, 4,
		ins(api.INew, 0, 2, 0), ins(api.INew, 1, 1, 0), ins(api.INum, 2, 42, 0), ins(api.IPut, 1, 2, 0), ins(api.IPut, 0, 1, 1),
		ins(api.INew, 3, 4, 0), ins(api.IPut, 3, 0, 2), ins(api.IGet, 2, 0, 1), ins(api.IOp, 2, 2, 1, api.Same), ins(api.IZero, 2, 13, 0),
		ins(api.IGet, 2, 3, 2), ins(api.IOp, 2, 2, 0, api.Same), ins(api.IJump, 0, 5, 0), ret))
	s, _ := New(p)
	got, _, n, err := Run(p, s, api.MaxFuel)
	if err != api.OK || n != api.MaxFuel || got.Status != api.Ready || len(got.Cells) > api.MaxCells {
		t.Errorf("%+v, %d steps, %d", got, n, err)
	}
}

// P6.3: the last instruction of a procedure: a return, of the first frame or another one, or a jump.
func TestLastInstruction(t *testing.T) {
	p := procs(proc(0, 1, ret), proc(0, 1, ins(api.IJump, 0, 0, 0)), proc(0, 1, pause, ret), proc(0, 1, pause, ins(api.IJump, 0, 1, 0)))
	for _, c := range []struct {
		name string
		s    api.State
		want string
	}{
		{"return, alone", state(nil, frame(0, 0, 0, num(5))), "status 1, frames 0"},
		{"jump, alone", state(nil, frame(1, 0, 0, num(5))), ""},
		{"return", state(nil, frame(2, 1, 0, none)), "status 1, frames 0"},
		{"jump to itself", state(nil, frame(3, 1, 0, none)), ""},
		{"return to another's last", state(nil, frame(2, 1, 0, none), frame(2, 1, 0, num(6))), "frames 1, f0.0 6"},
		{"return to a jump", state(nil, frame(3, 1, 0, none), frame(0, 0, 0, num(6))), "frames 1, f0.0 6"},
		{"return with cells", state(rows(row(none)), frame(0, 0, 0, ref(0))), "status 1, frames 0"},
	} {
		got, _, n, err := Run(p, c.s, 1)
		if told := changes(c.s, got); err != api.OK || n != 1 || told != c.want || Check(p, got) != api.OK {
			t.Errorf("%s: %q, %d steps, %d, want %q", c.name, told, n, err, c.want)
		}
	}
}

// P6.3, P6.4: it goes where it says, and goes on when it is woken.
func TestGoing(t *testing.T) {
	p := procs(proc(0, 1, ins(api.INum, 0, 2, 0), ins(api.ICall, 0, 1, 0, 0), ins(api.IGo, 0, 0, 0), ins(api.ISay, 0, 0, 0), ret),
		proc(1, 2, ins(api.IGo, 0, 0, 0), ins(api.INum, 1, -7, 0), ins(api.IReturn, 1, 0, 0)))
	s, _ := New(p)
	for _, c := range []struct{ steps, where, frames int }{{3, 2, 2}, {3, -7, 1}} {
		got, said, n, err := Run(p, s, api.MaxFuel)
		if err != api.OK || n != c.steps || got.Status != api.Going || got.Where != c.where || len(got.Frames) != c.frames || len(said) != 0 {
			t.Fatalf("%+v, %v, %d, %d, want %+v", got, said, n, err, c)
		}
		if _, _, _, err := Run(p, got, 1); err != api.ErrLate {
			t.Errorf("it runs, while it goes: %d", err)
		}
		woken, err := Wake(p, got)
		if err != api.OK || !Same(woken, as(got, api.Ready, 0)) {
			t.Fatalf("%+v, %d", woken, err)
		}
		s = woken
	}
	got, said, n, err := Run(p, s, api.MaxFuel)
	if err != api.OK || n != 2 || got.Status != api.Ended || !slices.Equal(said, []int{-7}) {
		t.Errorf("%+v, %v, %d, %d", got, said, n, err)
	}
}
