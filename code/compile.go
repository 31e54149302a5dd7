package code

import (
	"slices"

	"wanderer/api"
	"wanderer/source"
)

// Compile: a program as instructions.
func Compile(f []api.Fun) ([]api.Proc, api.Errno) {
	if err := source.Check(f); err != api.OK {
		return nil, err
	}
	p := make([]api.Proc, len(f))
	for k, fun := range f {
		p[k] = compileFun(fun, f)
	}
	return p, api.OK
}

// compileFun: a function of f as a procedure.
// A run has room for few cells, and a register keeps those that it leads to, though nothing asks for them any more.
// So such registers are cleared: at once, if the code isn't too long then; else behind each statement, which always fits:
// 30 Puts with 48 tokens, 17 registers to clear, an IPut, and two instructions at the end are 1982.
func compileFun(fun api.Fun, f []api.Fun) api.Proc {
	d := lay(fun, f, true)
	if len(d.code) > api.MaxCode {
		d = lay(fun, f, false)
	}
	return api.Proc{Params: fun.Params, Regs: d.regs, Code: d.code}
}

// draft: the code of a function of f, as far as it is laid.
// The first registers are its variables; those from vars on hold what is reckoned on the way.
type draft struct {
	f      []api.Fun
	vars   int
	regs   int               // how many there are
	cells  [api.MaxRegs]bool // which of those from vars on may hold a cell
	atOnce bool              // are they cleared at once?
	code   []api.Ins
}

// lay: the whole code of a function of f.
func lay(fun api.Fun, f []api.Fun, atOnce bool) *draft {
	d := &draft{f: f, vars: fun.Locals, atOnce: atOnce}
	d.block(fun.Body)
	d.add(api.Ins{Op: api.INum, A: d.vars})
	d.add(api.Ins{Op: api.IReturn, A: d.vars})
	return d
}

// add: one more instruction. Behind it more is known of what registers hold: it would have failed else.
func (d *draft) add(i api.Ins) {
	d.code = append(d.code, i)
	d.regs = max(d.regs, i.A+1)
	switch i.Op {
	case api.INew, api.IGet, api.ICall:
		d.cells[i.A] = true
	case api.IOp:
		if i.Args[0] != api.Same {
			d.cells[i.B], d.cells[i.C] = false, false
		}
		d.cells[i.A] = false
	case api.INum, api.ISay, api.IGo:
		d.cells[i.A] = false
	case api.IReturn:
		d.cells = [api.MaxRegs]bool{}
	}
}

// clear: no register from here on leads to a cell.
func (d *draft) clear(from int) {
	for r := from; r < d.regs; r++ {
		if d.cells[r] {
			d.add(api.Ins{Op: api.INum, A: r})
		}
	}
}

// block: statements, in order.
func (d *draft) block(l []api.Stmt) {
	for _, s := range l {
		d.stmt(s)
		d.clear(d.vars)
	}
}

// stmt: a statement.
func (d *draft) stmt(s api.Stmt) {
	switch s.Kind {
	case api.Set:
		d.set(s)
	case api.Put:
		a := d.value(reader(s.E), d.vars)
		b := d.value(reader(s.F), max(d.vars, a+1))
		d.add(api.Ins{Op: api.IPut, A: a, B: b, C: s.N})
	case api.Say:
		d.add(api.Ins{Op: api.ISay, A: d.value(reader(s.E), d.vars)})
	case api.Pause:
		d.add(api.Ins{Op: api.IPause})
	case api.Go:
		d.add(api.Ins{Op: api.IGo, A: d.value(reader(s.E), d.vars)})
	case api.If:
		d.choose(s)
	case api.While:
		d.repeat(s)
	case api.Return:
		d.add(api.Ins{Op: api.IReturn, A: d.value(reader(s.E), d.vars)})
	}
}

// set: a Set. The variable keeps what it has up to the last instruction: the expression may read it.
func (d *draft) set(s api.Stmt) {
	next := reader(s.E)
	t := next()
	if t.Kind == api.Local {
		d.add(api.Ins{Op: api.IMove, A: s.N, B: t.N})
		return
	}
	d.reckon(t, next, s.N, d.vars)
}

// choose: an If.
func (d *draft) choose(s api.Stmt) {
	land := d.unless(s.E)
	d.block(s.A)
	if len(s.B) > 0 {
		end := d.jump(api.Ins{Op: api.IJump})
		land()
		d.block(s.B)
		land = end
	}
	land()
}

// repeat: a While.
func (d *draft) repeat(s api.Stmt) {
	start := len(d.code)
	land := d.unless(s.E)
	d.block(s.A)
	d.add(api.Ins{Op: api.IJump, B: start})
	land()
}

// unless: a jump that is taken if e is 0 or nothing; land as of jump.
// The register with e may hold a cell only where the jump isn't taken: there it is cleared.
func (d *draft) unless(e []api.Tok) (land func()) {
	r := d.value(reader(e), d.vars)
	d.clear(max(d.vars, r+1))
	land = d.jump(api.Ins{Op: api.IZero, A: r})
	d.clear(d.vars)
	return land
}

// jump: a jump; land lets it lead to what comes next.
func (d *draft) jump(i api.Ins) (land func()) {
	at := len(d.code)
	d.add(i)
	return func() { d.code[at].B = len(d.code) }
}

// reader: reads tokens, one by one.
func reader(e []api.Tok) func() api.Tok {
	at := 0
	return func() api.Tok {
		at++
		return e[at-1]
	}
}

// value: the expression that is read next, and the register that it is in then: its variable's, or the first free one.
func (d *draft) value(next func() api.Tok, free int) int {
	t := next()
	if t.Kind == api.Local {
		return t.N
	}
	d.reckon(t, next, free, free)
	return free
}

// reckon: the expression that begins with t, no variable, comes into register to.
// Registers from free on are used on the way. To may be the first of them: it is written behind all that is read.
func (d *draft) reckon(t api.Tok, next func() api.Tok, to, free int) {
	switch t.Kind {
	case api.Num:
		d.add(api.Ins{Op: api.INum, A: to, B: t.N})
	case api.New:
		d.add(api.Ins{Op: api.INew, A: to, B: t.N})
	case api.Get:
		of := d.values(1, next, free)
		d.add(api.Ins{Op: api.IGet, A: to, B: of[0], C: t.N})
	case api.Op:
		of := d.values(2, next, free)
		d.add(api.Ins{Op: api.IOp, A: to, B: of[0], C: of[1], Args: []int{t.N}})
	case api.Call:
		n := d.f[t.N].Params
		of := d.values(n, next, free)
		d.add(api.Ins{Op: api.ICall, A: to, B: t.N, Args: slices.Clone(of[:n])})
	}
	if d.atOnce {
		d.clear(max(free, to+1))
	}
}

// values: the n expressions that are read next, in order, and the registers that they are in then.
func (d *draft) values(n int, next func() api.Tok, free int) (of [api.MaxParams]int) {
	for k := range n {
		of[k] = d.value(next, free)
		free = max(free, of[k]+1)
	}
	return of
}
