package snap

import (
	"math"
	"reflect"
	"slices"
	"testing"

	"wanderer/api"
	"wanderer/code"
	"wanderer/vm"
)

func ins(op, a, b, c int, args ...int) api.Ins {
	return api.Ins{Op: op, A: a, B: b, C: c, Args: args}
}

func proc(params, regs int, l ...api.Ins) api.Proc {
	return api.Proc{Params: params, Regs: regs, Code: l}
}

func procs(l ...api.Proc) []api.Proc { return l }

func num(n int) api.Value                 { return api.Value{Kind: api.Int, N: n} }
func ref(n int) api.Value                 { return api.Value{Kind: api.Ref, N: n} }
func row(l ...api.Value) []api.Value      { return l }
func rows(l ...[]api.Value) [][]api.Value { return l }

func frame(proc, at, to int, regs ...api.Value) api.Frame {
	return api.Frame{Proc: proc, At: at, Regs: regs, To: to}
}

func state(cells [][]api.Value, l ...api.Frame) api.State {
	return api.State{Frames: l, Cells: cells}
}

// as: s with another Status and Where.
func as(s api.State, status, where int) api.State {
	s.Status, s.Where = status, where
	return s
}

var (
	ret   = ins(api.IReturn, 0, 0, 0)
	pause = ins(api.IPause, 0, 0, 0)
	none  = api.Value{}
)

// numbers: an image, of pieces that are told one by one.
func numbers(pieces ...[]int) []int { return slices.Concat(pieces...) }

// piece of an image.
func piece(l ...int) []int { return l }

// with: a copy of an image in which number k is n.
func with(image []int, k, n int) []int {
	image = slices.Clone(image)
	image[k] = n
	return image
}

// sample: a program of three procedures, with two, three registers, and one.
func sample() []api.Proc {
	return procs(proc(0, 2, ins(api.ICall, 1, 1, 0, 0), pause, ret), proc(1, 3, ins(api.ICall, 2, 2, 0), ret), proc(0, 1, pause, ret))
}

// packed: a state of the sample, what it is swept, and its image.
type packed struct {
	name     string
	s, swept api.State
	image    []int
}

// plain: states of the sample without a cell that nothing leads to, the nearest ones first: as they are is how they are swept.
func plain() []packed {
	const most = api.MaxValue
	begin, _ := vm.New(sample())
	calls := state(nil, frame(0, 1, 0, num(7), num(-7)), frame(1, 1, 1, num(-most), none, num(most)), frame(2, 1, 2, num(0)))
	callsImage := numbers(piece(0, 0, 3), piece(0, 1, 0, 2, 1, 7, 1, -7), piece(1, 1, 1, 3, 1, -most, 0, 0, 1, most), piece(2, 1, 2, 1, 1, 0), piece(0))
	rings := state(rows(row(ref(2), num(5)), row(none, ref(1), ref(1), ref(2)), row(ref(0))), frame(0, 2, 0, ref(0), ref(0)), frame(2, 0, 1, ref(1)))
	ringsImage := numbers(piece(0, 0, 2), piece(0, 2, 0, 2, 2, 0, 2, 0), piece(2, 0, 1, 1, 2, 1), piece(3), piece(2, 2, 2, 1, 5), piece(4, 0, 0, 2, 1, 2, 1, 2, 2), piece(1, 2, 0))
	l := []packed{
		{name: "at its begin", s: begin, image: numbers(piece(0, 0, 1), piece(0, 0, 0, 2, 0, 0, 0, 0), piece(0))},
		{name: "in the midst of calls", s: calls, image: callsImage},
		{name: "rings", s: rings, image: ringsImage},
		{name: "going", s: as(calls, api.Going, -12), image: with(with(callsImage, 0, 3), 1, -12)},
		{name: "going to 0", s: as(begin, api.Going, 0), image: numbers(piece(3, 0, 1), piece(0, 0, 0, 2, 0, 0, 0, 0), piece(0))},
		{name: "going far", s: as(begin, api.Going, most), image: numbers(piece(3, most, 1), piece(0, 0, 0, 2, 0, 0, 0, 0), piece(0))},
		{name: "ended", s: as(state(nil), api.Ended, 0), image: piece(1, 0, 0, 0)},
		{name: "failed", s: as(rings, api.Failed, 0), image: with(ringsImage, 0, 2)},
		{name: "begun elsewhere", s: state(rows(row(num(2))), frame(2, 1, 0, ref(0))), image: numbers(piece(0, 0, 1), piece(2, 1, 0, 1, 2, 0), piece(1), piece(1, 1, 2))},
	}
	for k := range l {
		l[k].swept = l[k].s
	}
	return l
}

// untidy: states of the sample with cells that nothing leads to, or that come in another order.
func untidy() []packed {
	return []packed{
		{"nothing leads to it", state(rows(row(num(9))), frame(2, 0, 0, num(0))), state(nil, frame(2, 0, 0, num(0))), numbers(piece(0, 0, 1), piece(2, 0, 0, 1, 1, 0), piece(0))},
		{"only a ring leads to it", state(rows(row(ref(2)), row(none), row(ref(0), ref(1))), frame(2, 0, 0, ref(1))),
			state(rows(row(none)), frame(2, 0, 0, ref(0))), numbers(piece(0, 0, 1), piece(2, 0, 0, 1, 2, 0), piece(1), piece(1, 0, 0))},
		{"ended with cells", as(state(rows(row(ref(0)), row(num(1), num(2)))), api.Ended, 0), as(state(nil), api.Ended, 0), piece(1, 0, 0, 0)},
		{"another order of registers", state(rows(row(num(10)), row(num(11)), row(num(12), none)), frame(0, 1, 0, ref(2), ref(0)), frame(2, 0, 1, ref(1))),
			state(rows(row(num(12), none), row(num(10)), row(num(11))), frame(0, 1, 0, ref(0), ref(1)), frame(2, 0, 1, ref(2))),
			numbers(piece(0, 0, 2), piece(0, 1, 0, 2, 2, 0, 2, 1), piece(2, 0, 1, 1, 2, 2), piece(3), piece(2, 1, 12, 0, 0), piece(1, 1, 10), piece(1, 1, 11))},
		{"another order of fields", state(rows(row(num(0)), row(ref(0)), row(ref(4)), row(ref(1), ref(2)), row(ref(3))), frame(2, 0, 0, ref(3))),
			state(rows(row(ref(1), ref(2)), row(ref(3)), row(ref(4)), row(num(0)), row(ref(0))), frame(2, 0, 0, ref(0))),
			numbers(piece(0, 0, 1), piece(2, 0, 0, 1, 2, 0), piece(5), piece(2, 2, 1, 2, 2), piece(1, 2, 3), piece(1, 2, 4), piece(1, 1, 0), piece(1, 2, 0))},
		{"numbers that look like cells", as(state(rows(row(none), row(num(0), num(1))), frame(0, 0, 0, num(1), ref(1))), api.Going, 1),
			as(state(rows(row(num(0), num(1))), frame(0, 0, 0, num(1), ref(0))), api.Going, 1),
			numbers(piece(3, 1, 1), piece(0, 0, 0, 2, 1, 1, 2, 0), piece(1), piece(2, 1, 0, 1, 1))},
		three(),
	}
}

// three: a state of the sample with a frame of each procedure, and four cells, to the last of which nothing leads.
func three() packed {
	return packed{"three of each", state(rows(row(num(1), ref(2)), row(none), row(ref(0), num(-5), none, ref(2)), row(ref(3), ref(1))),
		frame(0, 1, 0, ref(1), num(8)), frame(1, 1, 1, none, ref(0), num(4)), frame(2, 0, 2, ref(2))),
		state(rows(row(none), row(num(1), ref(2)), row(ref(1), num(-5), none, ref(2))),
			frame(0, 1, 0, ref(0), num(8)), frame(1, 1, 1, none, ref(1), num(4)), frame(2, 0, 2, ref(2))),
		numbers(piece(0, 0, 3), piece(0, 1, 0, 2, 2, 0, 1, 8), piece(1, 1, 1, 3, 0, 0, 2, 1, 1, 4), piece(2, 0, 2, 1, 2, 2),
			piece(3), piece(1, 0, 0), piece(2, 1, 1, 2, 2), piece(4, 2, 1, 1, -5, 0, 0, 2, 2))}
}

// P8.1, P8.2: states told by hand, their images, and what these are unpacked; that is packed again the same.
func TestByHand(t *testing.T) {
	p := sample()
	for _, c := range append(plain(), untidy()...) {
		image, err := Pack(p, c.s)
		if err != api.OK || !slices.Equal(image, c.image) {
			t.Errorf("%s: %v, %d, want %v", c.name, image, err, c.image)
		}
		s, err := Unpack(p, c.image)
		if err != api.OK || !vm.Same(s, c.swept) {
			t.Errorf("%s: unpacked: %+v, %d, want %+v", c.name, s, err, c.swept)
		}
		if again, err := Pack(p, s); err != api.OK || !slices.Equal(again, c.image) {
			t.Errorf("%s: packed again: %v, %d, want %v", c.name, again, err, c.image)
		}
	}
}

// P8.1: lists that have nothing in them may be nil or empty.
func TestEmptyLists(t *testing.T) {
	p := sample()
	s := api.State{Frames: []api.Frame{}, Cells: rows(), Status: api.Ended}
	if image, err := Pack(p, s); err != api.OK || !slices.Equal(image, piece(1, 0, 0, 0)) {
		t.Errorf("empty lists: %v, %d", image, err)
	}
	for _, image := range [][]int{nil, {}} {
		refused(t, "no number", p, image, api.ErrTorn)
	}
}

// refused: with an error there is no state.
func refused(t *testing.T, name string, p []api.Proc, image []int, want api.Errno) {
	t.Helper()
	if s, err := Unpack(p, image); err != want || !reflect.DeepEqual(s, api.State{}) {
		t.Errorf("%s: %+v, %d, want %d: %v", name, s, err, want, image)
	}
}

// great: a program, and a state of so many frames with so many registers each, and so many cells with so many fields each, all of which are led to, in order.
func great(frames, regs, cells, fields int) ([]api.Proc, api.State) {
	s := api.State{}
	for range frames {
		f := frame(0, 0, 0, slices.Repeat(row(num(-api.MaxValue)), regs)...)
		f.Regs[regs-1] = ref(0)
		s.Frames = append(s.Frames, f)
	}
	for k := range cells {
		l := slices.Repeat(row(num(api.MaxValue)), fields)
		l[fields-1] = ref((k + 1) % cells)
		s.Cells = append(s.Cells, l)
	}
	return procs(proc(0, regs, ret)), s
}

// greatImage: the numbers of what great makes.
func greatImage(frames, regs, cells, fields int) []int {
	image := piece(0, 0, frames)
	for range frames {
		image = append(image, 0, 0, 0, regs)
		for range regs - 1 {
			image = append(image, api.Int, -api.MaxValue)
		}
		image = append(image, api.Ref, 0)
	}
	image = append(image, cells)
	for k := range cells {
		image = append(image, fields)
		for range fields - 1 {
			image = append(image, api.Int, api.MaxValue)
		}
		image = append(image, api.Ref, (k+1)%cells)
	}
	return image
}

// P8.1: as many frames, registers, cells and fields as there may be, one by one and all at once: even these have room.
func TestGreatest(t *testing.T) {
	for _, c := range []struct {
		name                              string
		frames, regs, cells, fields, size int
	}{
		{"one of each", 1, 1, 1, 1, 13},
		{"frames", api.MaxFrames, 1, 1, 1, 67},
		{"registers", 1, api.MaxRegs, 1, 1, 91},
		{"cells", 1, 1, api.MaxCells, 1, 82},
		{"fields", 1, 1, 1, api.MaxFields, 19},
		{"all at once", api.MaxFrames, api.MaxRegs, api.MaxCells, api.MaxFields, 1060},
	} {
		p, s := great(c.frames, c.regs, c.cells, c.fields)
		want := greatImage(c.frames, c.regs, c.cells, c.fields)
		image, err := Pack(p, s)
		if err != api.OK || len(image) != c.size || !slices.Equal(image, want) {
			t.Errorf("%s: %d numbers, %d, want %d", c.name, len(image), err, c.size)
		}
		if got, err := Unpack(p, want); err != api.OK || !vm.Same(got, s) {
			t.Errorf("%s: unpacked: %d", c.name, err)
		}
	}
}

// P8.1: one frame, register, cell or field more: as a state, and as an image.
func TestOneMore(t *testing.T) {
	for _, c := range []struct {
		name                        string
		frames, regs, cells, fields int
		want                        api.Errno // of the state
	}{
		{"a frame more", api.MaxFrames + 1, 1, 1, 1, api.ErrMany},
		{"a register more", 1, api.MaxRegs + 1, 1, 1, api.ErrForm},
		{"a cell more", 1, 1, api.MaxCells + 1, 1, api.ErrMany},
		{"a field more", 1, 1, 1, api.MaxFields + 1, api.ErrMany},
	} {
		_, s := great(c.frames, c.regs, c.cells, c.fields)
		p, _ := great(1, min(c.regs, api.MaxRegs), 1, 1)
		if image, err := Pack(p, s); err != c.want || image != nil {
			t.Errorf("%s: %v, %d, want %d", c.name, image, err, c.want)
		}
		refused(t, c.name, p, greatImage(c.frames, c.regs, c.cells, c.fields), api.ErrTorn)
	}
}

// P8.1: images of api.MaxImage numbers are read, but no state has so many; of images with more nothing else is told.
func TestLongImages(t *testing.T) {
	wrong := procs(proc(0, 0, ret))
	for _, c := range [][4]int{{1, 1, 1, 1}, {api.MaxFrames, api.MaxRegs, api.MaxCells, api.MaxFields}} {
		p, _ := great(c[0], c[1], c[2], c[3])
		image := greatImage(c[0], c[1], c[2], c[3])
		for _, n := range []int{0, 1, -1, math.MaxInt} {
			long := append(slices.Clone(image), slices.Repeat(piece(n), api.MaxImage-len(image))...)
			refused(t, "just so many", p, long, api.ErrTorn)
			refused(t, "just so many, wrong program", wrong, long, api.ErrTorn)
			for _, more := range [][]int{append(long, n), slices.Repeat(long, 9)} {
				refused(t, "more", p, more, api.ErrMany)
				refused(t, "more, wrong program", wrong, more, api.ErrMany)
				refused(t, "more, no program", nil, more, api.ErrMany)
			}
		}
	}
}

// P8.1: of no image a piece of its begin is one, nor is it with more behind it.
func TestPieces(t *testing.T) {
	p := sample()
	for _, c := range append(plain(), untidy()...) {
		for n := range c.image {
			refused(t, c.name+", a piece of it", p, c.image[:n], api.ErrTorn)
		}
		for _, more := range [][]int{{0}, {-1}, {1}, {math.MaxInt}, {0, 0}, {1, 0, 0}, c.image} {
			refused(t, c.name+", and more", p, append(slices.Clone(c.image), more...), api.ErrTorn)
		}
	}
}

// P8.1: numbers of how many that may not be, of frames, registers, cells, fields.
func TestCounts(t *testing.T) {
	p := sample()
	image := three().image
	if _, err := Unpack(p, image); err != api.OK {
		t.Fatal(err)
	}
	for at, most := range map[int]int{2: api.MaxFrames, 6: api.MaxRegs, 14: api.MaxRegs, 24: api.MaxRegs, 27: api.MaxCells, 28: api.MaxFields, 31: api.MaxFields, 36: api.MaxFields} {
		for _, n := range []int{-1, -2, -image[at], math.MinInt, most + 1, most + 2, math.MaxInt} {
			refused(t, "a count that may not be", p, with(image, at, n), api.ErrTorn)
		}
	}
	for _, c := range []struct {
		name  string
		image []int
		want  api.Errno
	}{
		{"most registers", append(piece(0, 0, 1, 0, 0, 0, api.MaxRegs), make([]int, 2*api.MaxRegs+1)...), api.ErrForm},
		{"a register more", append(piece(0, 0, 1, 0, 0, 0, api.MaxRegs+1), make([]int, 2*api.MaxRegs+3)...), api.ErrTorn},
		{"most fields", append(piece(1, 0, 0, 1, api.MaxFields), make([]int, 2*api.MaxFields)...), api.ErrForm},
		{"a field more", append(piece(1, 0, 0, 1, api.MaxFields+1), make([]int, 2*api.MaxFields+2)...), api.ErrTorn},
		{"no fields", piece(1, 0, 0, 1, 0), api.ErrMany},
		{"no registers", piece(0, 0, 1, 2, 0, 0, 0, 0), api.ErrForm},
		{"no frames", piece(0, 0, 0, 0), api.ErrForm},
	} {
		refused(t, c.name, p, c.image, c.want)
	}
}

// wrongState: a state of the sample that isn't right, its image, if it were written as it is, and chapter 6's Check's error.
type wrongState struct {
	name  string
	s     api.State
	image []int
	want  api.Errno
}

func wrongStates() []wrongState {
	const more = api.MaxValue + 1
	one := func(v api.Value) api.State { return state(nil, frame(2, 0, 0, v)) }
	return []wrongState{
		{"no status", as(one(none), 4, 0), piece(4, 0, 1, 2, 0, 0, 1, 0, 0, 0), api.ErrRange},
		{"status below", as(one(none), -1, 0), piece(-1, 0, 1, 2, 0, 0, 1, 0, 0, 0), api.ErrRange},
		{"too far", as(one(none), api.Going, more), piece(3, more, 1, 2, 0, 0, 1, 0, 0, 0), api.ErrRange},
		{"too far back", as(one(none), api.Going, -more), piece(3, -more, 1, 2, 0, 0, 1, 0, 0, 0), api.ErrRange},
		{"ready somewhere", as(one(none), api.Ready, 1), piece(0, 1, 1, 2, 0, 0, 1, 0, 0, 0), api.ErrForm},
		{"ended somewhere", as(state(nil), api.Ended, 1), piece(1, 1, 0, 0), api.ErrForm},
		{"ended with a frame", as(one(none), api.Ended, 0), piece(1, 0, 1, 2, 0, 0, 1, 0, 0, 0), api.ErrForm},
		{"ready without frames", state(nil), piece(0, 0, 0, 0), api.ErrForm},
		{"failed without frames", as(state(nil), api.Failed, 0), piece(2, 0, 0, 0), api.ErrForm},
		{"going without frames", as(state(nil), api.Going, 1), piece(3, 1, 0, 0), api.ErrForm},
		{"no procedure", state(nil, frame(3, 0, 0, none)), piece(0, 0, 1, 3, 0, 0, 1, 0, 0, 0), api.ErrWho},
		{"a procedure below", state(nil, frame(-1, 0, 0, none)), piece(0, 0, 1, -1, 0, 0, 1, 0, 0, 0), api.ErrWho},
		{"no instruction", state(nil, frame(2, 2, 0, none)), piece(0, 0, 1, 2, 2, 0, 1, 0, 0, 0), api.ErrRange},
		{"an instruction below", state(nil, frame(2, -1, 0, none)), piece(0, 0, 1, 2, -1, 0, 1, 0, 0, 0), api.ErrRange},
		{"the first frame waits", state(nil, frame(2, 0, 1, none)), piece(0, 0, 1, 2, 0, 1, 1, 0, 0, 0), api.ErrRange},
		{"no register waits", state(nil, frame(2, 0, 0, none), frame(2, 0, 1, none)), piece(0, 0, 2, 2, 0, 0, 1, 0, 0, 2, 0, 1, 1, 0, 0, 0), api.ErrRange},
		{"a register more", state(nil, frame(2, 0, 0, none, none)), piece(0, 0, 1, 2, 0, 0, 2, 0, 0, 0, 0, 0), api.ErrForm},
		{"a register less", state(nil, frame(0, 0, 0, none)), piece(0, 0, 1, 0, 0, 0, 1, 0, 0, 0), api.ErrForm},
		{"no kind", one(api.Value{Kind: 3}), piece(0, 0, 1, 2, 0, 0, 1, 3, 0, 0), api.ErrForm},
		{"nothing with a number", one(api.Value{N: 1}), piece(0, 0, 1, 2, 0, 0, 1, 0, 1, 0), api.ErrForm},
		{"too great a number", one(num(more)), piece(0, 0, 1, 2, 0, 0, 1, 1, more, 0), api.ErrRange},
		{"no cell", one(ref(0)), piece(0, 0, 1, 2, 0, 0, 1, 2, 0, 0), api.ErrWho},
		{"a cell without fields", state(rows(row()), frame(2, 0, 0, ref(0))), piece(0, 0, 1, 2, 0, 0, 1, 2, 0, 1, 0), api.ErrMany},
		{"a field that is no cell", state(rows(row(ref(1))), frame(2, 0, 0, ref(0))), piece(0, 0, 1, 2, 0, 0, 1, 2, 0, 1, 1, 2, 1), api.ErrWho},
		{"too great a field", state(rows(row(num(-more))), frame(2, 0, 0, ref(0))), piece(0, 0, 1, 2, 0, 0, 1, 2, 0, 1, 1, 1, -more), api.ErrRange},
		{"nothing leads to a field that is no cell", state(rows(row(ref(-1))), frame(2, 0, 0, none)), piece(0, 0, 1, 2, 0, 0, 1, 0, 0, 1, 1, 2, -1), api.ErrWho},
		{"nothing leads to what has no kind", as(state(rows(row(api.Value{Kind: -1}))), api.Ended, 0), piece(1, 0, 0, 1, 1, -1, 0), api.ErrForm},
	}
}

// P8.1: states that aren't right aren't packed, nor are they unpacked.
func TestWrongStates(t *testing.T) {
	p := sample()
	for _, c := range wrongStates() {
		if err := vm.Check(p, c.s); err != c.want {
			t.Fatalf("%s: chapter 6 says %d, want %d", c.name, err, c.want)
		}
		if image, err := Pack(p, c.s); err != c.want || image != nil {
			t.Errorf("%s: %v, %d, want %d", c.name, image, err, c.want)
		}
		refused(t, c.name, p, c.image, c.want)
	}
}

// wrongPrograms: programs, each with what chapter 4 says of it.
func wrongPrograms() map[api.Errno][]api.Proc {
	return map[api.Errno][]api.Proc{
		api.ErrMany:  nil,
		api.ErrRange: procs(proc(0, 0, ret)),
		api.ErrForm:  procs(proc(0, 1, pause)),
		api.ErrWho:   procs(proc(0, 1, ins(api.ICall, 0, 1, 0), ret)),
	}
}

// P8.1: programs that aren't right, with right states and wrong ones: the program's error is told ahead of the state's, but behind that of an image that isn't written so.
func TestWrongPrograms(t *testing.T) {
	for want, p := range wrongPrograms() {
		if err := code.Check(p); err != want {
			t.Fatalf("chapter 4 says %d, want %d", err, want)
		}
		for _, c := range append(plain(), untidy()...) {
			if image, err := Pack(p, c.s); err != want || image != nil {
				t.Errorf("%s: %v, %d, want %d", c.name, image, err, want)
			}
			refused(t, c.name, p, c.image, want)
			refused(t, c.name+", torn", p, c.image[1:len(c.image)-1], api.ErrTorn)
		}
		for _, c := range wrongStates() {
			if image, err := Pack(p, c.s); err != want || image != nil {
				t.Errorf("%s: %v, %d, want %d", c.name, image, err, want)
			}
			refused(t, c.name, p, c.image, want)
			refused(t, c.name+", and more", p, append(c.image, 0), api.ErrTorn)
		}
	}
}

// P8.1: images of right states that aren't swept.
func TestNotSwept(t *testing.T) {
	p := sample()
	for _, c := range []struct {
		name string
		l    [][]int
	}{
		{"nothing leads to it", [][]int{{0, 0, 1}, {2, 0, 0, 1, 0, 0}, {1}, {1, 0, 0}}},
		{"ended with a cell", [][]int{{1, 0, 0}, {1}, {1, 0, 0}}},
		{"only it leads to itself", [][]int{{0, 0, 1}, {2, 0, 0, 1, 1, 0}, {1}, {1, 2, 0}}},
		{"nothing leads to the last one", [][]int{{0, 0, 1}, {2, 0, 0, 1, 2, 0}, {2}, {1, 2, 0}, {1, 2, 0}}},
		{"nothing leads to the first one", [][]int{{0, 0, 1}, {2, 0, 0, 1, 2, 1}, {2}, {1, 2, 1}, {1, 1, 7}}},
		{"a ring leads to itself", [][]int{{0, 0, 1}, {2, 0, 0, 1, 2, 0}, {3}, {1, 1, 7}, {1, 2, 2}, {1, 2, 1}}},
		{"two registers, the other way round", [][]int{{0, 0, 1}, {0, 0, 0, 2, 2, 1, 2, 0}, {2}, {1, 0, 0}, {1, 0, 0}}},
		{"two frames, the other way round", [][]int{{0, 0, 2}, {2, 0, 0, 1, 2, 1}, {2, 0, 0, 1, 2, 0}, {2}, {1, 0, 0}, {1, 0, 0}}},
		{"fields, the other way round", [][]int{{0, 0, 1}, {2, 0, 0, 1, 2, 0}, {3}, {2, 2, 2, 2, 1}, {1, 0, 0}, {1, 0, 0}}},
		{"a field ahead of a register", [][]int{{0, 0, 1}, {0, 0, 0, 2, 2, 0, 2, 2}, {3}, {1, 2, 1}, {1, 0, 0}, {1, 0, 0}}},
		{"far ones ahead of near ones", [][]int{{0, 0, 1}, {2, 0, 0, 1, 2, 0}, {4}, {2, 2, 1, 2, 3}, {1, 2, 2}, {1, 0, 0}, {1, 0, 0}}},
		{"failed", [][]int{{2, 0, 1}, {2, 0, 0, 1, 2, 1}, {2}, {1, 0, 0}, {1, 2, 0}}},
		{"going", [][]int{{3, 1, 1}, {2, 0, 0, 1, 2, 1}, {2}, {1, 0, 0}, {1, 2, 0}}},
	} {
		refused(t, c.name, p, numbers(c.l...), api.ErrForm)
	}
}

// fault: what makes an image wrong, or the program, and what is told of it.
type fault struct {
	name  string
	err   api.Errno
	apply func(p []api.Proc, image []int) []int
}

// faults: in the order in which they are told, of an image of one frame with two registers, and two cells.
func faults() []fault {
	put := func(at, n int) func([]api.Proc, []int) []int {
		return func(_ []api.Proc, image []int) []int { return with(image, at, n) }
	}
	return []fault{
		{"too long", api.ErrMany, func(_ []api.Proc, image []int) []int { return append(image, make([]int, api.MaxImage)...) }},
		{"torn", api.ErrTorn, func(_ []api.Proc, image []int) []int { return append(image, 0) }},
		{"program", api.ErrWho, func(p []api.Proc, image []int) []int { p[0].Code[0].B = 3; return image }},
		{"status", api.ErrRange, put(0, 4)},
		{"where", api.ErrForm, put(1, 1)},
		{"cell 0", api.ErrRange, put(14, api.MaxValue+1)},
		{"cell 1", api.ErrForm, put(16, 3)},
		{"procedure", api.ErrWho, put(3, 9)},
		{"at", api.ErrRange, put(4, 77)},
		{"register", api.ErrWho, put(8, 5)},
		{"not swept", api.ErrForm, func(_ []api.Proc, image []int) []int { return with(with(image, 8, image[10]), 10, image[8]) }},
	}
}

// P8.1, P3: of each two faults the one that is told first is the answer.
func TestOrder(t *testing.T) {
	for j, late := range faults() {
		for k, early := range faults()[:j+1] {
			p := sample()
			image := numbers(piece(0, 0, 1), piece(0, 1, 0, 2, 2, 0, 2, 1), piece(2), piece(1, 1, 98), piece(1, 1, 99))
			image = early.apply(p, image)
			if k < j {
				image = late.apply(p, image)
			}
			refused(t, early.name+", "+late.name, p, image, early.err)
		}
	}
}
