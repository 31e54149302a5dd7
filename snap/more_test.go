package snap

import (
	"math"
	"math/rand/v2"
	"reflect"
	"slices"
	"testing"

	"wanderer/api"
	"wanderer/code"
	"wanderer/solo"
	"wanderer/vm"
	"wanderer/words"
)

// read: the state that an image tells of, right or not, by an index that may run out; false: it isn't written so.
func read(image []int) (s api.State, ok bool) {
	defer func() {
		if recover() != nil {
			ok = false
		}
	}()
	at := 0
	next := func() int {
		at++
		return image[at-1]
	}
	upTo := func(most int) int {
		n := next()
		if n < 0 || n > most {
			panic("torn")
		}
		return n
	}
	values := func(most int) []api.Value {
		l := make([]api.Value, upTo(most))
		for k := range l {
			l[k].Kind = next()
			l[k].N = next()
		}
		return l
	}
	s.Status = next()
	s.Where = next()
	s.Frames = make([]api.Frame, upTo(api.MaxFrames))
	for k := range s.Frames {
		f := &s.Frames[k]
		f.Proc = next()
		f.At = next()
		f.To = next()
		f.Regs = values(api.MaxRegs)
	}
	s.Cells = make([][]api.Value, upTo(api.MaxCells))
	for k := range s.Cells {
		s.Cells[k] = values(api.MaxFields)
	}
	return s, at == len(image)
}

// tidy: is each cell met, in the order of their numbers? One that is met for the first time has as its number how many were met ahead of it.
func tidy(s api.State) bool {
	met, inOrder := 0, true
	meet := func(row []api.Value) {
		for _, v := range row {
			if v.Kind == api.Ref {
				inOrder = inOrder && v.N <= met
				met = max(met, v.N+1)
			}
		}
	}
	for _, f := range s.Frames {
		meet(f.Regs)
	}
	for k, fields := range s.Cells {
		if k >= met {
			return false
		}
		meet(fields)
	}
	return inOrder
}

// reckoned: what Unpack is to answer.
func reckoned(p []api.Proc, image []int) (api.State, api.Errno) {
	if len(image) > api.MaxImage {
		return api.State{}, api.ErrMany
	}
	s, ok := read(image)
	if !ok {
		return api.State{}, api.ErrTorn
	}
	if err := vm.Check(p, s); err != api.OK {
		return api.State{}, err
	}
	if !tidy(s) {
		return api.State{}, api.ErrForm
	}
	return s, api.OK
}

// laid: the numbers of a state as it is, right or not, swept or not.
func laid(s api.State) []int {
	values := func(row []api.Value) []int {
		l := piece(len(row))
		for _, v := range row {
			l = append(l, v.Kind, v.N)
		}
		return l
	}
	pieces := [][]int{{s.Status, s.Where, len(s.Frames)}}
	for _, f := range s.Frames {
		pieces = append(pieces, piece(f.Proc, f.At, f.To), values(f.Regs))
	}
	pieces = append(pieces, piece(len(s.Cells)))
	for _, fields := range s.Cells {
		pieces = append(pieces, values(fields))
	}
	return numbers(pieces...)
}

// agrees: Unpack answers what is reckoned; what it unpacks is packed again the same.
func agrees(t *testing.T, p []api.Proc, image []int) api.Errno {
	t.Helper()
	want, wantErr := reckoned(p, image)
	s, err := Unpack(p, image)
	if err != wantErr || !vm.Same(s, want) || err != api.OK && !reflect.DeepEqual(s, api.State{}) {
		t.Fatalf("%+v, %d, want %+v, %d: %v", s, err, want, wantErr, image)
	}
	if err == api.OK {
		if again, err := Pack(p, s); err != api.OK || !slices.Equal(again, image) {
			t.Fatalf("packed again: %v, %d, want %v", again, err, image)
		}
	}
	return err
}

// maker: random states.
type maker struct{ *rand.Rand }

// program: procedures, of which any state is right, whatever it does then.
func (w maker) program() []api.Proc {
	return procs(proc(0, 4, pause, pause, ret), proc(2, 2, pause, ret), proc(1, 1+w.IntN(api.MaxRegs), ret))
}

func (w maker) value(cells int) api.Value {
	switch n := w.IntN(8); {
	case n == 0:
		return none
	case n < 4 || cells == 0:
		return num([]int{0, 1, 2, -3, api.MaxValue, -api.MaxValue}[w.IntN(6)])
	}
	return ref(w.IntN(cells))
}

func (w maker) row(n, cells int) (l []api.Value) {
	for range n {
		l = append(l, w.value(cells))
	}
	return l
}

// state: a right one of p: any frames and cells, any status.
func (w maker) state(p []api.Proc) (s api.State) {
	cells := w.IntN(min(1+w.IntN(30), api.MaxCells+1))
	for range cells {
		s.Cells = append(s.Cells, w.row(1+w.IntN(api.MaxFields), cells))
	}
	s.Status = w.IntN(4)
	if s.Status == api.Ended {
		return s
	}
	if s.Status == api.Going {
		s.Where = w.IntN(9) - 4
	}
	ahead := 1
	for range 1 + w.IntN(1+w.IntN(api.MaxFrames)) {
		k := w.IntN(len(p))
		s.Frames = append(s.Frames, frame(k, w.IntN(len(p[k].Code)), w.IntN(ahead), w.row(p[k].Regs, cells)...))
		ahead = p[k].Regs
	}
	return s
}

// scrambled: s with its cells in any order, and with others between them that nothing in it leads to, as many as there may be if it is to be full.
func (w maker) scrambled(s api.State, full bool) api.State {
	total := len(s.Cells) + w.IntN(api.MaxCells+1-len(s.Cells))
	if full {
		total = api.MaxCells
	}
	order := w.Perm(total)
	moved := func(row []api.Value) []api.Value {
		row = slices.Clone(row)
		for k, v := range row {
			if v.Kind == api.Ref {
				row[k].N = order[v.N]
			}
		}
		return row
	}
	frames := slices.Clone(s.Frames)
	for k, f := range frames {
		frames[k].Regs = moved(f.Regs)
	}
	cells := make([][]api.Value, total)
	for k, n := range order {
		if k < len(s.Cells) {
			cells[n] = moved(s.Cells[k])
		} else {
			cells[n] = w.row(1+w.IntN(api.MaxFields), total)
		}
	}
	return api.State{Frames: frames, Cells: cells, Status: s.Status, Where: s.Where}
}

// P8.1: images in which one number is another one: near, at the limits, far off.
func TestOneNumber(t *testing.T) {
	const most = api.MaxValue
	others := []int{most, most + 1, -most, -most - 1, math.MinInt, math.MaxInt}
	for n := -2; n <= api.MaxRegs+2; n++ {
		others = append(others, n)
	}
	seen := map[api.Errno]int{}
	for _, c := range append(plain(), untidy()...) {
		for k := range c.image {
			for _, n := range others {
				seen[agrees(t, sample(), with(c.image, k, n))]++
			}
		}
	}
	w := maker{rand.New(rand.NewPCG(8, 1))}
	for range 80 {
		p := w.program()
		image := laid(vm.Sweep(w.state(p)))
		for k := range image {
			for _, n := range []int{image[k] - 1, image[k] + 1, -1, w.IntN(30), others[w.IntN(6)]} {
				seen[agrees(t, p, with(image, k, n))]++
			}
		}
	}
	for _, err := range []api.Errno{api.OK, api.ErrMany, api.ErrRange, api.ErrForm, api.ErrWho, api.ErrTorn} {
		if seen[err] < 20 {
			t.Errorf("error %d came %d times", err, seen[err])
		}
	}
}

// P8.1: images of right states that are swept or not, whole, or with numbers that are left out, put in, or changed.
func TestRandomImages(t *testing.T) {
	w := maker{rand.New(rand.NewPCG(8, 2))}
	seen := map[api.Errno]int{}
	for range 20000 {
		p := w.program()
		s := w.state(p)
		if w.IntN(2) == 0 {
			s = vm.Sweep(s)
		}
		image := laid(s)
		for range w.IntN(3) {
			k := w.IntN(len(image))
			switch w.IntN(3) {
			case 0:
				image = slices.Insert(image, k, w.IntN(4))
			case 1:
				image = slices.Delete(image, k, k+1+w.IntN(min(3, len(image)-k)))
			case 2:
				image[k] = w.IntN(9) - 2
			}
			image = append(image, 0)[:max(1, len(image))]
		}
		seen[agrees(t, p, image)]++
	}
	for _, err := range []api.Errno{api.OK, api.ErrRange, api.ErrForm, api.ErrWho, api.ErrTorn} {
		if seen[err] < 50 {
			t.Errorf("error %d came %d times", err, seen[err])
		}
	}
}

// P8.1, P1: rows of any numbers.
func TestAnyNumbers(t *testing.T) {
	w := maker{rand.New(rand.NewPCG(8, 3))}
	p := sample()
	for range 50000 {
		image := make([]int, w.IntN(24))
		for k := range image {
			image[k] = w.IntN(w.IntN(5)+1) - w.IntN(40)/39
		}
		agrees(t, p, image)
	}
}

// P8.1, P8.2: random states: their images are those of what they are swept, wherever their cells lie, and whatever others there are; unpacked they are that.
func TestRandomStates(t *testing.T) {
	w := maker{rand.New(rand.NewPCG(8, 4))}
	seen := map[int]int{}
	for range 3000 {
		p := w.program()
		s := w.state(p)
		swept := vm.Sweep(s)
		want := laid(swept)
		for _, same := range []api.State{s, swept, w.scrambled(s, false), w.scrambled(s, true)} {
			if image, err := Pack(p, same); err != api.OK || !slices.Equal(image, want) {
				t.Fatalf("%+v: %v, %d, want %v", same, image, err, want)
			}
		}
		if got, err := Unpack(p, want); err != api.OK || !vm.Same(got, swept) {
			t.Fatalf("unpacked: %+v, %d, want %+v", got, err, swept)
		}
		seen[s.Status]++
	}
	for _, status := range []int{api.Ready, api.Ended, api.Failed, api.Going} {
		if seen[status] < 300 {
			t.Errorf("status %d came %d times", status, seen[status])
		}
	}
}

// texts: programs that make cells, call, pause, go, end, fail, and go on for ever.
func texts() map[string]string {
	return map[string]string{
		"counts":      "fun 0 1 { set 0 3 while v0 { say v0 go v0 set 0 - v0 1 } }",
		"a ring":      "fun 0 3 { set 0 new2 set 1 new2 put 1 v0 v1 put 1 v1 v0 put 0 v0 5 put 0 v1 0 set 2 12 while v2 { set 0 .1 v0 put 0 v0 + .0 v0 v2 say .0 v0 go .0 v0 set 2 - v2 1 } }",
		"calls":       "fun 0 1 { set 0 new1 put 0 v0 1 say f1 7 v0 say .0 v0 } fun 2 3 { set 2 new2 put 0 v2 v1 put 1 v2 v2 pause if v0 { put 0 v1 + .0 .0 v2 v0 go v0 return + 1 f1 - v0 1 .0 .1 v2 } { } return .0 v1 }",
		"too deep":    "fun 0 0 { say f1 1 new2 } fun 2 2 { put 1 v1 v1 put 0 v1 v0 say .0 v1 return f1 + v0 1 new2 }",
		"drops cells": "fun 0 2 { set 0 new3 while 1 { set 1 new3 put 0 v1 v0 put 1 v1 new1 put 2 v1 v1 say = .2 v1 v1 put 0 v0 0 set 0 v1 } }",
		"no room":     "fun 0 2 { set 0 0 while 1 { set 1 new2 put 0 v1 v0 set 0 v1 say 1 } }",
		"just room":   "fun 0 3 { set 2 23 while v2 { set 1 new2 put 0 v1 v0 put 1 v1 v2 set 0 v1 set 2 - v2 1 } set 2 30 while v2 { set 1 new1 set 1 0 say + v2 .1 v0 set 2 - v2 1 pause } while v0 { say .1 v0 set 0 .0 v0 } }",
		"a list":      "fun 0 4 { set 3 10 while v3 { set 0 f1 v3 v0 set 3 - v3 1 } while v0 { set 2 .1 v0 put 1 v0 v1 set 1 v0 set 0 v2 pause } while v1 { say .0 v1 set 1 .1 v1 } } fun 2 3 { set 2 new2 put 0 v2 v0 put 1 v2 v1 return v2 }",
		"fails":       "fun 0 2 { set 0 new1 put 0 v0 v0 say 3 pause say .0 v0 }",
	}
}

// program: one that is written in words, compiled.
func program(t *testing.T, text string) []api.Proc {
	t.Helper()
	f, err := words.Parse(text)
	if err != api.OK {
		t.Fatalf("it isn't written right: %d: %s", err, text)
	}
	p, err := code.Compile(f)
	if err != api.OK {
		t.Fatalf("it isn't compiled: %d: %s", err, text)
	}
	return p
}

// carry: a state, packed and unpacked.
func carry(t *testing.T, p []api.Proc, s api.State) api.State {
	t.Helper()
	image, err := Pack(p, s)
	if err != api.OK {
		t.Fatalf("it isn't packed: %d: %+v", err, s)
	}
	s, err = Unpack(p, image)
	if err != api.OK {
		t.Fatalf("it isn't unpacked: %d: %v", err, image)
	}
	return s
}

// carried: what is said in so many turns, where the state is packed and unpacked ahead of each, and the state then.
func carried(t *testing.T, p []api.Proc, fuel, turns int) (all []int, s api.State) {
	t.Helper()
	s, _ = vm.New(p)
	for range turns {
		if s = carry(t, p, s); s.Status == api.Going {
			s, _ = vm.Wake(p, s)
		}
		if s.Status != api.Ready {
			break
		}
		next, said, _, err := vm.Run(p, s, fuel)
		if err != api.OK {
			t.Fatalf("fuel %d: %d: %+v", fuel, err, s)
		}
		all, s = append(all, said...), next
	}
	return all, s
}

// P8.2: programs that are packed and unpacked between each two slices say what they say alone, and come to the same.
func TestCarried(t *testing.T) {
	ends := map[int]int{}
	for name, text := range texts() {
		p := program(t, text)
		for _, fuel := range []int{1, 2, 3, 5, 8, 13, 30, 77, 200, api.MaxFuel} {
			for _, turns := range []int{1, 2, 3, 11, api.MaxScript} {
				wantSaid, want, _ := solo.Run(p, fuel, turns)
				said, s := carried(t, p, fuel, turns)
				if !slices.Equal(said, wantSaid) || !vm.Same(vm.Sweep(s), vm.Sweep(want)) {
					t.Errorf("%s: fuel %d, %d turns: %v, %+v, want %v, %+v", name, fuel, turns, said, s, wantSaid, want)
				}
				ends[s.Status]++
			}
		}
	}
	if len(ends) != 4 {
		t.Errorf("what became of them: %v", ends)
	}
}

// along: the states of a program, step by step, so many at most; it is woken wherever it goes.
func along(t *testing.T, p []api.Proc, steps int) []api.State {
	t.Helper()
	s, err := vm.New(p)
	l := []api.State{s}
	for range steps {
		switch s.Status {
		case api.Going:
			s, err = vm.Wake(p, s)
		case api.Ready:
			s, _, _, err = vm.Run(p, s, 1)
		default:
			return l
		}
		if err != api.OK {
			t.Fatalf("%d: %+v", err, s)
		}
		l = append(l, s)
	}
	return l
}

// together: two states do the same in slices of any length, one of them packed and unpacked now and then.
func together(t *testing.T, w maker, p []api.Proc, a, b api.State) {
	t.Helper()
	for range 12 {
		if !vm.Same(vm.Sweep(a), vm.Sweep(b)) {
			t.Fatalf("%+v isn't %+v", b, a)
		}
		if a.Status == api.Going {
			a, _ = vm.Wake(p, a)
			b, _ = vm.Wake(p, b)
		}
		if a.Status != api.Ready {
			return
		}
		fuel := w.IntN(1 + w.IntN(120))
		nextA, saidA, stepsA, errA := vm.Run(p, a, fuel)
		nextB, saidB, stepsB, errB := vm.Run(p, b, fuel)
		if !slices.Equal(saidA, saidB) || stepsA != stepsB || errA != api.OK || errB != api.OK {
			t.Fatalf("fuel %d: %v, %d, %d, want %v, %d, %d: from %+v, %+v", fuel, saidB, stepsB, errB, saidA, stepsA, errA, b, a)
		}
		if a, b = nextA, nextB; w.IntN(2) == 0 {
			b = carry(t, p, b)
		}
	}
}

// P8.2: at each step of programs the state, packed and unpacked, is the state, swept, and goes on as that would; so it does from any order of its cells, with others between them.
func TestGoesOn(t *testing.T) {
	w := maker{rand.New(rand.NewPCG(8, 5))}
	for name, text := range texts() {
		p := program(t, text)
		cells := 0
		for k, s := range along(t, p, 700) {
			if len(s.Cells) == 0 && k%5 > 0 {
				continue
			}
			got := carry(t, p, s)
			if !vm.Same(got, vm.Sweep(s)) {
				t.Fatalf("%s: step %d: %+v, want %+v", name, k, got, vm.Sweep(s))
			}
			together(t, w, p, s, got)
			scrambled := w.scrambled(s, k%2 == 0)
			together(t, w, p, s, scrambled)
			together(t, w, p, scrambled, carry(t, p, scrambled))
			cells = max(cells, len(s.Cells))
		}
		if name != "counts" && cells == 0 {
			t.Errorf("%s: it makes no cells", name)
		}
	}
}

// roomy: a copy of l with something in the spare room behind it.
func roomy[T any](l []T, mark T) []T {
	return append(slices.Clone(l), mark, mark)[:len(l)]
}

// given: copies of a program and a state, with something behind each of their lists, and all of these lists with what is behind them.
func given(p []api.Proc, s api.State) ([]api.Proc, api.State, []any) {
	p, s.Frames, s.Cells = roomy(p, proc(77, 77)), roomy(s.Frames, frame(77, 77, 77)), roomy(s.Cells, row(num(77)))
	lists := []any{p[:cap(p)], s.Frames[:cap(s.Frames)], s.Cells[:cap(s.Cells)]}
	for k, q := range p {
		p[k].Code = roomy(q.Code, ins(77, 0, 0, 0))
		lists = append(lists, p[k].Code[:cap(p[k].Code)])
	}
	for k, f := range s.Frames {
		s.Frames[k].Regs = roomy(f.Regs, num(77))
		lists = append(lists, s.Frames[k].Regs[:cap(s.Frames[k].Regs)])
	}
	for k, fields := range s.Cells {
		s.Cells[k] = roomy(fields, num(77))
		lists = append(lists, s.Cells[k][:cap(s.Cells[k])])
	}
	return p, s, lists
}

// spoil: all rows of a state, with the spare room behind them, are filled with what no other row is; false: two of them share memory.
func spoil(s api.State) bool {
	l := slices.Clone(s.Cells)
	for _, f := range s.Frames {
		l = append(l, f.Regs)
	}
	for k, row := range l {
		whole := row[:cap(row)]
		for j := range whole {
			whole[j] = api.Value{Kind: 55, N: k}
		}
	}
	for k, row := range l {
		if slices.ContainsFunc(row[:cap(row)], func(v api.Value) bool { return v.N != k }) {
			return false
		}
	}
	clear(s.Frames[:cap(s.Frames)])
	clear(s.Cells[:cap(s.Cells)])
	return true
}

// P2: what is handed in is only read, and not kept; what is answered is nobody else's, and no two lists of it share any.
func TestMemory(t *testing.T) {
	w := maker{rand.New(rand.NewPCG(8, 6))}
	for range 400 {
		p := w.program()
		s := w.state(p)
		_, _, had := given(p, s)
		p, s, has := given(p, s)
		image, _ := Pack(p, s)
		clear(image[:cap(image)])
		image, _ = Pack(p, s)
		room := roomy(image, 77)
		first, _ := Unpack(p, room)
		again, _ := Unpack(p, room)
		if !spoil(first) || !vm.Same(again, vm.Sweep(s)) {
			t.Fatalf("lists share memory: %+v, of %+v", again, s)
		}
		if !slices.Equal(room, image) || !slices.Equal(room[:len(room)+2][len(room):], piece(77, 77)) {
			t.Fatalf("the image is %v now: %v", room[:len(room)+2], image)
		}
		clear(room)
		if !vm.Same(again, vm.Sweep(s)) || !reflect.DeepEqual(has, had) {
			t.Fatalf("what was handed in was changed, or kept: %+v", s)
		}
	}
}
