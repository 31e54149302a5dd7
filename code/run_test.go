package code

import (
	"slices"
	"strconv"

	"wanderer/api"
)

// What a source means, and what code does, each reckoned here by its own chapter, to be held against each other.

// track: what came of a run: what it said, where it paused, went, called, made a cell, and how it was over, if it was.
// Of each cell that was made: to how many something led then.
type track struct {
	events []string
	led    []int
	cells  [][]api.Value
	left   int // how much it may still do
	room   int // for cells
}

// stop: how a run is over.
type stop string

const (
	ended  stop = "end"
	failed stop = "fail"
	tired  stop = ""
)

// toTheEnd: what do did up to its stop.
func (r *track) toTheEnd(do func()) {
	defer func() {
		if s, ok := recover().(stop); ok && s != tired {
			r.events = append(r.events, string(s))
		}
	}()
	do()
}

func (r *track) tell(what string, n int) {
	r.events = append(r.events, what+" "+strconv.Itoa(n))
}

func (r *track) spend() {
	r.left--
	if r.left < 0 {
		panic(tired)
	}
}

// must: it fails, if that doesn't hold.
func must(holds bool) {
	if !holds {
		panic(failed)
	}
}

func number(v api.Value) int {
	must(v.Kind == api.Int)
	return v.N
}

func holds(v api.Value) bool { return v.Kind == api.Ref || v.Kind == api.Int && v.N != 0 }

func operate(op int, a, b api.Value) api.Value {
	truth := map[bool]int{true: 1}
	n := 0
	switch op {
	case api.Plus:
		n = number(a) + number(b)
	case api.Minus:
		n = number(a) - number(b)
	case api.Times:
		n = number(a) * number(b)
	case api.Less:
		n = truth[number(a) < number(b)]
	case api.Same:
		n = truth[a == b]
	}
	must(-api.MaxValue <= n && n <= api.MaxValue)
	return api.Value{Kind: api.Int, N: n}
}

// field: where field n of v is.
func (r *track) field(v api.Value, n int) *api.Value {
	must(v.Kind == api.Ref && n < len(r.cells[v.N]))
	return &r.cells[v.N][n]
}

func (r *track) newCell(fields int, roots ...[]api.Value) api.Value {
	led := map[int]bool{}
	roots = slices.Clone(roots)
	for len(roots) > 0 {
		l := roots[0]
		roots = roots[1:]
		for _, v := range l {
			if v.Kind == api.Ref && !led[v.N] {
				led[v.N] = true
				roots = append(roots, r.cells[v.N])
			}
		}
	}
	must(len(led) < r.room)
	r.led = append(r.led, len(led))
	r.tell("new", fields)
	r.cells = append(r.cells, make([]api.Value, fields))
	return api.Value{Kind: api.Ref, N: len(r.cells) - 1}
}

// meaning: a run of a source: the variables of all that are under way, and what is reckoned, and waits for the rest.
type meaning struct {
	track
	f     []api.Fun
	vars  [][]api.Value
	waits []api.Value
}

func mean(f []api.Fun, left, room int) track {
	m := &meaning{track: track{left: left, room: room}, f: f}
	m.toTheEnd(func() {
		m.run(0, nil)
		panic(ended)
	})
	return m.track
}

func (m *meaning) run(k int, args []api.Value) api.Value {
	must(len(m.vars) < api.MaxFrames)
	vars := make([]api.Value, m.f[k].Locals)
	copy(vars, args)
	m.vars = append(m.vars, vars)
	v, returned := m.block(m.f[k].Body)
	m.vars = m.vars[:len(m.vars)-1]
	if !returned {
		v = api.Value{Kind: api.Int}
	}
	return v
}

func (m *meaning) block(l []api.Stmt) (v api.Value, returned bool) {
	for _, s := range l {
		if v, returned = m.stmt(s); returned {
			return v, true
		}
	}
	return v, false
}

func (m *meaning) stmt(s api.Stmt) (v api.Value, returned bool) {
	m.spend()
	if s.Kind != api.Pause {
		v, _ = m.expr(s.E)
	}
	switch s.Kind {
	case api.Set:
		m.vars[len(m.vars)-1][s.N] = v
	case api.Put:
		m.waits = append(m.waits, v)
		value, _ := m.expr(s.F)
		m.waits = m.waits[:len(m.waits)-1]
		*m.field(v, s.N) = value
	case api.Say:
		m.tell("say", number(v))
	case api.Pause:
		m.tell("pause", 0)
	case api.Go:
		m.tell("go", number(v))
	case api.If:
		if holds(v) {
			return m.block(s.A)
		}
		return m.block(s.B)
	case api.While:
		if holds(v) {
			if v, returned = m.block(s.A); returned {
				return v, true
			}
			return m.stmt(s)
		}
	case api.Return:
		return v, true
	}
	return v, false
}

// expr: what the expression at the start of e is, and what is behind it.
func (m *meaning) expr(e []api.Tok) (api.Value, []api.Tok) {
	m.spend()
	t, e := e[0], e[1:]
	asked := map[int]int{api.Get: 1, api.Op: 2}[t.Kind]
	if t.Kind == api.Call {
		asked = m.f[t.N].Params
	}
	had := len(m.waits)
	for range asked {
		var v api.Value
		v, e = m.expr(e)
		m.waits = append(m.waits, v)
	}
	v := m.token(t, slices.Clone(m.waits[had:]))
	m.waits = m.waits[:had]
	return v, e
}

func (m *meaning) token(t api.Tok, of []api.Value) api.Value {
	switch t.Kind {
	case api.Num:
		return api.Value{Kind: api.Int, N: t.N}
	case api.Local:
		return m.vars[len(m.vars)-1][t.N]
	case api.Op:
		return operate(t.N, of[0], of[1])
	case api.Get:
		return *m.field(of[0], t.N)
	case api.New:
		return m.newCell(t.N, append(slices.Clone(m.vars), m.waits)...)
	}
	m.tell("call", t.N)
	return m.run(t.N, of)
}

// machine: a run of code.
type machine struct {
	track
	p      []api.Proc
	frames []api.Frame
}

func do(p []api.Proc, left, room int) track {
	m := &machine{track: track{left: left, room: room}, p: p}
	m.toTheEnd(func() {
		m.enter(api.Ins{}, nil)
		for {
			m.spend()
			m.step()
		}
	})
	return m.track
}

func (m *machine) enter(i api.Ins, args []api.Value) {
	must(len(m.frames) < api.MaxFrames)
	regs := make([]api.Value, m.p[i.B].Regs)
	copy(regs, args)
	m.frames = append(m.frames, api.Frame{Proc: i.B, Regs: regs, To: i.A})
}

func (m *machine) step() {
	f := &m.frames[len(m.frames)-1]
	i := m.p[f.Proc].Code[f.At]
	f.At++
	r := f.Regs
	switch i.Op {
	case api.INum:
		r[i.A] = api.Value{Kind: api.Int, N: i.B}
	case api.IMove:
		r[i.A] = r[i.B]
	case api.IOp:
		r[i.A] = operate(i.Args[0], r[i.B], r[i.C])
	case api.IGet:
		r[i.A] = *m.field(r[i.B], i.C)
	case api.INew:
		var roots [][]api.Value
		for _, f := range m.frames {
			roots = append(roots, f.Regs)
		}
		r[i.A] = m.newCell(i.B, roots...)
	case api.IPut:
		*m.field(r[i.A], i.C) = r[i.B]
	case api.ICall:
		m.tell("call", i.B)
		var args []api.Value
		for _, k := range i.Args {
			args = append(args, r[k])
		}
		m.enter(i, args)
	case api.IReturn:
		m.frames = m.frames[:len(m.frames)-1]
		if len(m.frames) == 0 {
			panic(ended)
		}
		m.frames[len(m.frames)-1].Regs[f.To] = r[i.A]
	case api.ISay:
		m.tell("say", number(r[i.A]))
	case api.IPause:
		m.tell("pause", 0)
	case api.IGo:
		m.tell("go", number(r[i.A]))
	case api.IJump:
		f.At = i.B
	case api.IZero:
		if !holds(r[i.A]) {
			f.At = i.B
		}
	}
}
