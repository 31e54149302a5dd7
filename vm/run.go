package vm

import "wanderer/api"

// Run: the state behind some steps, fuel at most, what was said, and how many steps there were.
func Run(p []api.Proc, s api.State, fuel int) (api.State, []int, int, api.Errno) {
	if err := checkRun(p, s, fuel); err != api.OK {
		return api.State{}, nil, 0, err
	}
	r := &run{p: p, s: copied(s)}
	steps := 0
	for steps < fuel && r.goesOn() {
		r.step()
		steps++
	}
	return r.s, r.said, steps, api.OK
}

// checkRun: what is wrong with what Run is given.
func checkRun(p []api.Proc, s api.State, fuel int) api.Errno {
	if err := Check(p, s); err != api.OK {
		return err
	}
	if fuel < 0 || fuel > api.MaxFuel {
		return api.ErrRange
	}
	if s.Status != api.Ready {
		return api.ErrLate
	}
	return api.OK
}

// run: a run of a program that is at work: its state, a right one all the time.
type run struct {
	p      []api.Proc
	s      api.State
	said   []int
	paused bool
}

// goesOn: is there one more step in this slice, if there is fuel?
func (r *run) goesOn() bool {
	if r.s.Status != api.Ready || r.paused {
		return false
	}
	f := r.frame()
	return len(r.said) < api.MaxSays || r.p[f.Proc].Code[f.At].Op != api.ISay
}

// frame: the last one. It may lie elsewhere behind a call or a Sweep: ask again then.
func (r *run) frame() *api.Frame {
	return &r.s.Frames[len(r.s.Frames)-1]
}

// step: an instruction. If that fails it has changed nothing but At.
func (r *run) step() {
	f := r.frame()
	at, code := f.At, r.p[f.Proc].Code
	f.At = min(at+1, len(code)-1)
	if !r.do(code[at]) {
		f.At = at
		r.s.Status = api.Failed
	}
}

// do: what an instruction does; false: it fails.
func (r *run) do(i api.Ins) bool {
	f := r.frame()
	switch i.Op {
	case api.IPut:
		return r.put(i)
	case api.ICall:
		return r.call(i)
	case api.IReturn:
		r.giveBack(f.Regs[i.A])
	case api.ISay:
		return r.say(f.Regs[i.A])
	case api.IPause:
		r.paused = true
	case api.IGo:
		return r.leave(f.Regs[i.A])
	case api.IJump:
		f.At = i.B
	case api.IZero:
		if v := f.Regs[i.A]; v.Kind != api.Ref && v.N == 0 {
			f.At = i.B
		}
	default:
		return r.set(i)
	}
	return true
}

// set: register A is what the instruction makes.
func (r *run) set(i api.Ins) bool {
	v, ok := r.value(i)
	if ok {
		r.frame().Regs[i.A] = v
	}
	return ok
}

// value: what an instruction makes for its register A.
func (r *run) value(i api.Ins) (api.Value, bool) {
	regs := r.frame().Regs
	switch i.Op {
	case api.INum:
		return number(i.B), true
	case api.IMove:
		return regs[i.B], true
	case api.IOp:
		return operate(i.Args[0], regs[i.B], regs[i.C])
	case api.INew:
		return r.newCell(i.B)
	}
	field := r.field(regs[i.B], i.C)
	if field == nil {
		return api.Value{}, false
	}
	return *field, true
}

// number: n as a value.
func number(n int) api.Value {
	return api.Value{Kind: api.Int, N: n}
}

// operate: what comes of two values.
func operate(op int, a, b api.Value) (api.Value, bool) {
	if op == api.Same {
		return truth(a == b), true
	}
	if a.Kind != api.Int || b.Kind != api.Int {
		return api.Value{}, false
	}
	n := 0
	switch op {
	case api.Plus:
		n = a.N + b.N
	case api.Minus:
		n = a.N - b.N
	case api.Times:
		n = a.N * b.N
	case api.Less:
		return truth(a.N < b.N), true
	}
	return number(n), -api.MaxValue <= n && n <= api.MaxValue
}

// truth: 1, if it holds, or 0.
func truth(holds bool) api.Value {
	if holds {
		return number(1)
	}
	return number(0)
}

// newCell: one more cell, if there is room, or was for one that nothing leads to.
func (r *run) newCell(fields int) (api.Value, bool) {
	if len(r.s.Cells) == api.MaxCells {
		swept := Sweep(r.s)
		if len(swept.Cells) == api.MaxCells {
			return api.Value{}, false
		}
		r.s = swept
	}
	r.s.Cells = append(r.s.Cells, make([]api.Value, fields))
	return api.Value{Kind: api.Ref, N: len(r.s.Cells) - 1}, true
}

// field: where field n of a value is; nil: nowhere.
func (r *run) field(v api.Value, n int) *api.Value {
	if v.Kind != api.Ref || n >= len(r.s.Cells[v.N]) {
		return nil
	}
	return &r.s.Cells[v.N][n]
}

// put: an IPut.
func (r *run) put(i api.Ins) bool {
	regs := r.frame().Regs
	field := r.field(regs[i.A], i.C)
	if field == nil {
		return false
	}
	*field = regs[i.B]
	return true
}

// call: an ICall.
func (r *run) call(i api.Ins) bool {
	if len(r.s.Frames) == api.MaxFrames {
		return false
	}
	from, regs := r.frame().Regs, make([]api.Value, r.p[i.B].Regs)
	for k, arg := range i.Args {
		regs[k] = from[arg]
	}
	r.s.Frames = append(r.s.Frames, api.Frame{Proc: i.B, Regs: regs, To: i.A})
	return true
}

// giveBack: the last frame goes, and v comes to the one ahead.
func (r *run) giveBack(v api.Value) {
	to := r.frame().To
	r.s.Frames = r.s.Frames[:len(r.s.Frames)-1]
	if len(r.s.Frames) == 0 {
		r.s.Status = api.Ended
		return
	}
	r.frame().Regs[to] = v
}

// say: v is said.
func (r *run) say(v api.Value) bool {
	if v.Kind != api.Int {
		return false
	}
	r.said = append(r.said, v.N)
	return true
}

// leave: it goes to place v.
func (r *run) leave(v api.Value) bool {
	if v.Kind != api.Int {
		return false
	}
	r.s.Status, r.s.Where = api.Going, v.N
	return true
}
