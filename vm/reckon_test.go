package vm

import (
	"math/rand/v2"
	"slices"
	"testing"

	"wanderer/api"
	"wanderer/code"
)

// A machine of its own, to be held against Run: its values are nil, numbers, and pointers to cells, and it begins each step anew.

type box struct{ fields []any }

type ply struct {
	proc, at, to int
	regs         []any
}

type machine struct {
	p             []api.Proc
	plies         []ply
	boxes         []*box
	status, where int
	said          []int
	paused        bool
	seen          map[string]int // what came, and how often
}

// failure is what a step panics with that fails.
type failure struct{}

func must(holds bool) {
	if !holds {
		panic(failure{})
	}
}

// load: the machine is in state s.
func (m *machine) load(s api.State) {
	m.status, m.where, m.plies, m.boxes = s.Status, s.Where, nil, nil
	for range s.Cells {
		m.boxes = append(m.boxes, &box{})
	}
	values := func(row []api.Value) (l []any) {
		for _, v := range row {
			switch v.Kind {
			case api.Nil:
				l = append(l, nil)
			case api.Int:
				l = append(l, v.N)
			case api.Ref:
				l = append(l, m.boxes[v.N])
			}
		}
		return l
	}
	for k, fields := range s.Cells {
		m.boxes[k].fields = values(fields)
	}
	for _, f := range s.Frames {
		m.plies = append(m.plies, ply{f.Proc, f.At, f.To, values(f.Regs)})
	}
}

// state: the one that the machine is in.
func (m *machine) state() api.State {
	s := api.State{Status: m.status, Where: m.where}
	values := func(l []any) (row []api.Value) {
		for _, v := range l {
			switch x := v.(type) {
			case nil:
				row = append(row, none)
			case int:
				row = append(row, num(x))
			case *box:
				row = append(row, ref(slices.Index(m.boxes, x)))
			}
		}
		return row
	}
	for _, b := range m.boxes {
		s.Cells = append(s.Cells, values(b.fields))
	}
	for _, f := range m.plies {
		s.Frames = append(s.Frames, api.Frame{Proc: f.proc, At: f.at, To: f.to, Regs: values(f.regs)})
	}
	return s
}

// sweep: the boxes are those that are led to, those that registers lead to first.
func (m *machine) sweep() {
	var l []any
	for _, f := range m.plies {
		l = append(l, f.regs...)
	}
	m.boxes = nil
	for len(l) > 0 {
		if b, ok := l[0].(*box); ok && !slices.Contains(m.boxes, b) {
			m.boxes = append(m.boxes, b)
			l = append(l, b.fields...)
		}
		l = l[1:]
	}
}

// run: what Run is to answer.
func (m *machine) run(fuel int) (steps int) {
	m.said, m.paused = nil, false
	for ; steps < fuel && m.status == api.Ready && !m.paused; steps++ {
		f := m.plies[len(m.plies)-1]
		if len(m.said) == api.MaxSays && m.p[f.proc].Code[f.at].Op == api.ISay {
			m.seen["enough said"]++
			return steps
		}
		m.step()
	}
	return steps
}

// step: one step. If it fails, all else is what it was ahead of it.
func (m *machine) step() {
	ahead := m.state()
	defer func() {
		switch what := recover().(type) {
		case nil:
		case failure:
			m.load(ahead)
			m.status = api.Failed
			m.seen["fails"]++
		default:
			panic(what)
		}
	}()
	f := &m.plies[len(m.plies)-1]
	i := m.p[f.proc].Code[f.at]
	f.at++
	m.do(i, f)
}

func truthOf(holds bool) int {
	return map[bool]int{true: 1}[holds]
}

func (m *machine) operate(op int, a, b any) any {
	if op == api.Same {
		return truthOf(a == b)
	}
	x, okX := a.(int)
	y, okY := b.(int)
	must(okX && okY)
	n := map[int]int{api.Plus: x + y, api.Minus: x - y, api.Times: x * y, api.Less: truthOf(x < y)}[op]
	must(max(n, -n) <= api.MaxValue)
	return n
}

// fields: those of a box that has one with number n.
func fieldsOf(v any, n int) []any {
	b, ok := v.(*box)
	must(ok && n < len(b.fields))
	return b.fields
}

func (m *machine) do(i api.Ins, f *ply) {
	r := f.regs
	switch i.Op {
	case api.INum:
		r[i.A] = i.B
	case api.IMove:
		r[i.A] = r[i.B]
	case api.IOp:
		r[i.A] = m.operate(i.Args[0], r[i.B], r[i.C])
	case api.IGet:
		r[i.A] = fieldsOf(r[i.B], i.C)[i.C]
	case api.IPut:
		fieldsOf(r[i.A], i.C)[i.C] = r[i.B]
	case api.INew:
		if len(m.boxes) == api.MaxCells {
			m.sweep()
			m.seen["sweeps"]++
			if len(m.boxes) == api.MaxCells {
				m.seen["no room"]++
			}
		}
		must(len(m.boxes) < api.MaxCells)
		m.boxes = append(m.boxes, &box{make([]any, i.B)})
		r[i.A] = m.boxes[len(m.boxes)-1]
	case api.ICall:
		if len(m.plies) == api.MaxFrames {
			m.seen["too deep"]++
		}
		must(len(m.plies) < api.MaxFrames)
		regs := make([]any, m.p[i.B].Regs)
		for k, arg := range i.Args {
			regs[k] = r[arg]
		}
		m.plies = append(m.plies, ply{proc: i.B, to: i.A, regs: regs})
	case api.IReturn:
		m.plies = m.plies[:len(m.plies)-1]
		if len(m.plies) == 0 {
			m.status = api.Ended
			m.seen["ends"]++
			return
		}
		m.plies[len(m.plies)-1].regs[f.to] = r[i.A]
		m.seen["returns"]++
	case api.ISay:
		n, ok := r[i.A].(int)
		must(ok)
		m.said = append(m.said, n)
	case api.IPause:
		m.paused = true
		m.seen["pauses"]++
	case api.IGo:
		n, ok := r[i.A].(int)
		must(ok)
		m.status, m.where = api.Going, n
		m.seen["goes"]++
	case api.IJump:
		f.at = i.B
	case api.IZero:
		if r[i.A] == nil || r[i.A] == 0 {
			f.at = i.B
		}
	}
}

// maker: random right programs, and right states of them. Registers with odd numbers mostly hold cells.
type maker struct {
	*rand.Rand
	wild int // of a hundred instructions, how many have any registers
}

func (w *maker) program() []api.Proc {
	w.wild = w.IntN(3) * w.IntN(8)
	p := make([]api.Proc, 1+w.IntN(api.MaxFuns))
	for k := range p {
		if k > 0 {
			p[k].Params = w.IntN(api.MaxParams + 1)
		}
		p[k].Regs = 3 + w.IntN(4)
		p[k].Code = make([]api.Ins, 3+w.IntN(15))
	}
	for _, q := range p {
		for k := range q.Code {
			q.Code[k] = w.instruction(p, q)
		}
		last := ins(api.IReturn, w.IntN(q.Regs), 0, 0)
		if w.IntN(3) > 0 {
			last = ins(api.IJump, 0, w.IntN(len(q.Code)), 0)
		}
		q.Code[len(q.Code)-1] = last
	}
	return p
}

// reg: a register of q that holds a cell, or a number, or any, if it is to be wild.
func (w *maker) reg(q api.Proc, cell bool) int {
	if w.IntN(100) < w.wild {
		return w.IntN(q.Regs)
	}
	return w.IntN((q.Regs-truthOf(cell)+1)/2)*2 + truthOf(cell)
}

// instruction: one of q of p. Field 1 of a cell mostly holds a cell.
func (w *maker) instruction(p []api.Proc, q api.Proc) api.Ins {
	cell, to := w.IntN(2) == 0, w.IntN(len(q.Code))
	op := 1 + w.IntN(api.IZero)
	switch op {
	case api.INum:
		return ins(op, w.reg(q, false), w.IntN(7)-2, 0)
	case api.IMove:
		return ins(op, w.reg(q, cell), w.reg(q, cell), 0)
	case api.IOp:
		by := 1 + w.IntN(api.Same)
		cell = cell && by == api.Same
		return ins(op, w.reg(q, false), w.reg(q, cell), w.reg(q, cell), by)
	case api.IGet:
		return ins(op, w.reg(q, cell), w.reg(q, true), truthOf(cell))
	case api.INew:
		return ins(op, w.reg(q, true), 2+w.IntN(api.MaxFields-1), 0)
	case api.IPut:
		return ins(op, w.reg(q, true), w.reg(q, cell), truthOf(cell))
	case api.ICall:
		b := w.IntN(len(p))
		i := ins(op, w.reg(q, false), b, 0)
		for k := range p[b].Params {
			i.Args = append(i.Args, w.reg(q, k%2 == 1))
		}
		return i
	case api.IReturn, api.ISay, api.IGo:
		return ins(op, w.reg(q, false), 0, 0)
	case api.IJump:
		return ins(op, 0, to, 0)
	case api.IZero:
		return ins(op, w.reg(q, cell), to, 0)
	}
	return pause
}

func (w *maker) value(cell bool, cells int) api.Value {
	switch {
	case w.IntN(100) < w.wild:
		return none
	case cell && cells > 0:
		return ref(w.IntN(cells))
	}
	return num(w.IntN(9) - 2)
}

// lead: each cell leads to all of them.
func (w *maker) lead(cells [][]api.Value) {
	order := w.Perm(len(cells))
	for k, n := range order {
		cells[n][1] = ref(order[(k+1)%len(order)])
	}
}

// state: a state of p that is ready, with any frames and cells.
func (w *maker) state(p []api.Proc) (s api.State) {
	cells := w.IntN(api.MaxCells + 1)
	if w.IntN(3) == 0 {
		cells = api.MaxCells
	}
	for range cells {
		fields := make([]api.Value, 2+w.IntN(api.MaxFields-1))
		for k := range fields {
			fields[k] = w.value(k%2 == 1, cells)
		}
		s.Cells = append(s.Cells, fields)
	}
	if w.IntN(3) == 0 {
		w.lead(s.Cells)
	}
	ahead := 1
	for range 1 + w.IntN(api.MaxFrames) {
		k := w.IntN(len(p))
		f := api.Frame{Proc: k, At: w.IntN(len(p[k].Code)), To: w.IntN(ahead), Regs: make([]api.Value, p[k].Regs)}
		for k := range f.Regs {
			f.Regs[k] = w.value(k%2 == 1, cells)
		}
		s.Frames = append(s.Frames, f)
		ahead = len(f.Regs)
	}
	return s
}

// start: a random program, and a state of it: a new one, or any.
func (w *maker) start(t *testing.T) ([]api.Proc, api.State) {
	t.Helper()
	p := w.program()
	s, err := New(p)
	if w.IntN(2) == 0 {
		s = w.state(p)
	}
	if err != api.OK || Check(p, s) != api.OK {
		t.Fatalf("it isn't right: %d, %d: %+v, %+v", code.Check(p), Check(p, s), p, s)
	}
	return p, s
}

// P6.2, P6.3: random programs and states do what the other machine does, slice by slice, and are right all the time.
func TestRunReckoned(t *testing.T) {
	w := &maker{Rand: rand.New(rand.NewPCG(6, 3))}
	seen := map[string]int{}
	for range 5000 {
		p, s := w.start(t)
		m := &machine{p: p, seen: seen}
		m.load(s)
		for range 12 {
			fuel := w.IntN(9)
			if w.IntN(4) == 0 {
				fuel = w.IntN(200)
			}
			got, said, n, err := Run(p, s, fuel)
			steps := m.run(fuel)
			if err != api.OK || n != steps || !slices.Equal(said, m.said) || !Same(got, m.state()) {
				t.Fatalf("%+v from %+v, fuel %d: %+v, %v, %d, %d, want %+v, %v, %d", p, s, fuel, got, said, n, err, m.state(), m.said, steps)
			}
			if err := Check(p, got); err != api.OK {
				t.Fatalf("%+v from %+v, fuel %d: %+v isn't right: %d", p, s, fuel, got, err)
			}
			if w.IntN(5) == 0 {
				m.sweep()
				if got = Sweep(got); !Same(got, m.state()) {
					t.Fatalf("%+v swept: %+v, want %+v", s, got, m.state())
				}
			}
			if got.Status == api.Going {
				got, err = Wake(p, got)
				m.status, m.where = api.Ready, 0
				if err != api.OK || !Same(got, m.state()) {
					t.Fatalf("woken: %+v, %d, want %+v", got, err, m.state())
				}
			}
			if s = got; s.Status != api.Ready {
				break
			}
		}
	}
	for _, what := range []string{"sweeps", "no room", "fails", "too deep", "ends", "returns", "pauses", "goes", "enough said"} {
		if seen[what] < 50 {
			t.Errorf("%s: %d times: the programs do little", what, seen[what])
		}
	}
}

// drive: a run of so many steps, woken wherever it goes, in slices of at most so many; between them the state is what then makes of it.
func drive(t *testing.T, p []api.Proc, s api.State, steps int, slice func() int, then func(api.State) api.State) (all []int, end api.State) {
	t.Helper()
	for steps > 0 {
		if s.Status == api.Going {
			woken, err := Wake(p, s)
			if err != api.OK {
				t.Fatalf("%+v isn't woken: %d", s, err)
			}
			s = woken
		}
		if s.Status != api.Ready {
			break
		}
		got, said, n, err := Run(p, s, min(steps, slice()))
		if err != api.OK || n == 0 {
			t.Fatalf("%+v: %d steps, %d", s, n, err)
		}
		all = append(all, said...)
		s = then(got)
		steps -= n
	}
	return all, s
}

func asItIs(s api.State) api.State { return s }

func of(n int) func() int { return func() int { return n } }

// mustSlice: in slices of every length, swept in between or not, a run says what it says in one, and comes to the same state.
func mustSlice(t *testing.T, p []api.Proc, s api.State, steps int, lengths []int) {
	t.Helper()
	want, end := drive(t, p, s, steps, of(api.MaxFuel), asItIs)
	for _, n := range lengths {
		if said, got := drive(t, p, s, steps, of(n), asItIs); !slices.Equal(said, want) || !Same(got, end) {
			t.Fatalf("in slices of %d: said %v, %+v, want %v, %+v: %+v from %+v", n, said, got, want, end, p, s)
		}
		if said, got := drive(t, p, s, steps, of(n), Sweep); !slices.Equal(said, want) || !Same(Sweep(got), Sweep(end)) {
			t.Fatalf("in slices of %d, swept: said %v, %+v, want %v, %+v: %+v from %+v", n, said, got, want, end, p, s)
		}
	}
}

// upTo: the numbers from 1 to n.
func upTo(n int) (l []int) {
	for k := range n {
		l = append(l, k+1)
	}
	return l
}

// P6.5: random programs in slices of every length.
func TestSlicesRandom(t *testing.T) {
	w := &maker{Rand: rand.New(rand.NewPCG(6, 5))}
	for range 400 {
		p, s := w.start(t)
		mustSlice(t, p, s, 60, upTo(60))
	}
}

// P6.5: slices of any lengths, mixed, swept now and then.
func TestSlicesMixed(t *testing.T) {
	w := &maker{Rand: rand.New(rand.NewPCG(6, 55))}
	for range 1500 {
		p, s := w.start(t)
		want, end := drive(t, p, s, 400, of(api.MaxFuel), asItIs)
		said, got := drive(t, p, s, 400, func() int { return 1 + w.IntN(50) }, func(s api.State) api.State {
			if w.IntN(3) == 0 {
				return Sweep(s)
			}
			return s
		})
		if !slices.Equal(said, want) || !Same(Sweep(got), Sweep(end)) {
			t.Fatalf("said %v, %+v, want %v, %+v: %+v from %+v", said, got, want, end, p, s)
		}
	}
}

// P6.5: a run that says much, calls, makes and drops cells, pauses and goes, in slices of every length that there is.
func TestSlicesEvery(t *testing.T) {
	p := procs(
		proc(0, 4, ins(api.INum, 0, 60, 0), ins(api.INew, 1, 2, 0), ins(api.IPut, 1, 2, 1), ins(api.IMove, 2, 1, 0), ins(api.ICall, 3, 1, 0, 0, 2),
			ins(api.IOp, 0, 0, 3, api.Minus), ins(api.ISay, 0, 0, 0), ins(api.IZero, 0, 9, 0), ins(api.IJump, 0, 1, 0), pause, ins(api.IGo, 0, 0, 0), ret),
		proc(2, 4, ins(api.IPut, 1, 0, 0), ins(api.IGet, 2, 1, 0), ins(api.ISay, 2, 0, 0), ins(api.INum, 3, 5, 0), ins(api.IOp, 3, 3, 0, api.Less), ins(api.IZero, 3, 7, 0),
			ins(api.INew, 2, 4, 0), ins(api.INew, 2, 1, 0), ins(api.IPut, 1, 3, 1), ins(api.INum, 3, 1, 0), ins(api.IReturn, 3, 0, 0)))
	s, err := New(p)
	if err != api.OK {
		t.Fatal(err)
	}
	said, end := drive(t, p, s, api.MaxFuel, of(api.MaxFuel), asItIs)
	if len(said) != 120 || end.Status != api.Ended {
		t.Fatalf("it says %v, %+v", said, end)
	}
	mustSlice(t, p, s, api.MaxFuel, upTo(api.MaxFuel))
}
