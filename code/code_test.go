package code

import (
	"math"
	"reflect"
	"slices"
	"testing"

	"wanderer/api"
)

func ins(op, a, b, c int, args ...int) api.Ins {
	return api.Ins{Op: op, A: a, B: b, C: c, Args: args}
}

func proc(params, regs int, l ...api.Ins) api.Proc {
	return api.Proc{Params: params, Regs: regs, Code: l}
}

func procs(l ...api.Proc) []api.Proc { return l }

var (
	ret   = ins(api.IReturn, 0, 0, 0)
	pause = ins(api.IPause, 0, 0, 0)
	bad   = ins(0, 0, 0, 0)
)

// around: a program with i in a procedure of three registers and four instructions; procedures 1 and 2 have one and three parameters.
func around(i api.Ins) []api.Proc {
	return procs(proc(0, 3, pause, i, pause, ret), proc(1, 1, ret), proc(3, 40, ret))
}

// P4.1: each kind of instruction, right, at its limits, and not right in one field.
func TestCheckInstructions(t *testing.T) {
	const most = api.MaxValue
	for _, c := range []struct {
		name string
		i    api.Ins
		want api.Errno
	}{
		{"op 0", ins(0, 0, 0, 0), api.ErrForm},
		{"op 14", ins(14, 0, 0, 0), api.ErrForm},
		{"op -1", ins(-1, 0, 0, 0), api.ErrForm},
		{"greatest op", ins(math.MaxInt, 0, 0, 0), api.ErrForm},
		{"least op", ins(math.MinInt, 0, 0, 0), api.ErrForm},
		{"op 14, register 3", ins(14, 3, 0, 0), api.ErrForm},

		{"number", ins(api.INum, 2, 0, 0), api.OK},
		{"greatest number", ins(api.INum, 0, most, 0), api.OK},
		{"one more", ins(api.INum, 0, most+1, 0), api.ErrRange},
		{"least number", ins(api.INum, 0, -most, 0), api.OK},
		{"one less", ins(api.INum, 0, -most-1, 0), api.ErrRange},
		{"greatest int", ins(api.INum, 0, math.MaxInt, 0), api.ErrRange},
		{"least int", ins(api.INum, 0, math.MinInt, 0), api.ErrRange},
		{"number to register 3", ins(api.INum, 3, 0, 0), api.ErrRange},
		{"number to register -1", ins(api.INum, -1, 0, 0), api.ErrRange},
		{"number with C", ins(api.INum, 0, 0, 1), api.ErrForm},
		{"number with Args", ins(api.INum, 0, 0, 0, 0), api.ErrForm},

		{"move", ins(api.IMove, 0, 2, 0), api.OK},
		{"move to 3", ins(api.IMove, 3, 0, 0), api.ErrRange},
		{"move of 3", ins(api.IMove, 0, 3, 0), api.ErrRange},
		{"move of -1", ins(api.IMove, 0, -1, 0), api.ErrRange},
		{"move with C", ins(api.IMove, 0, 0, -1), api.ErrForm},
		{"move with Args", ins(api.IMove, 0, 0, 0, 1), api.ErrForm},

		{"plus", ins(api.IOp, 2, 2, 2, api.Plus), api.OK},
		{"same", ins(api.IOp, 0, 1, 2, api.Same), api.OK},
		{"op to 3", ins(api.IOp, 3, 0, 0, api.Plus), api.ErrRange},
		{"op of 3", ins(api.IOp, 0, 3, 0, api.Plus), api.ErrRange},
		{"op and 3", ins(api.IOp, 0, 0, 3, api.Plus), api.ErrRange},
		{"op and -1", ins(api.IOp, 0, 0, -1, api.Plus), api.ErrRange},
		{"no operation", ins(api.IOp, 0, 0, 0), api.ErrRange},
		{"operation 0", ins(api.IOp, 0, 0, 0, 0), api.ErrRange},
		{"operation 6", ins(api.IOp, 0, 0, 0, 6), api.ErrRange},
		{"two operations", ins(api.IOp, 0, 0, 0, api.Plus, api.Plus), api.ErrRange},

		{"get", ins(api.IGet, 2, 2, 0), api.OK},
		{"last field", ins(api.IGet, 0, 0, api.MaxFields-1), api.OK},
		{"one behind", ins(api.IGet, 0, 0, api.MaxFields), api.ErrRange},
		{"field -1", ins(api.IGet, 0, 0, -1), api.ErrRange},
		{"get to 3", ins(api.IGet, 3, 0, 0), api.ErrRange},
		{"get of 3", ins(api.IGet, 0, 3, 0), api.ErrRange},
		{"get with Args", ins(api.IGet, 0, 0, 0, 0), api.ErrForm},

		{"new", ins(api.INew, 2, 1, 0), api.OK},
		{"greatest cell", ins(api.INew, 0, api.MaxFields, 0), api.OK},
		{"one field more", ins(api.INew, 0, api.MaxFields+1, 0), api.ErrRange},
		{"no field", ins(api.INew, 0, 0, 0), api.ErrRange},
		{"new in 3", ins(api.INew, 3, 1, 0), api.ErrRange},
		{"new with C", ins(api.INew, 0, 1, 1), api.ErrForm},
		{"new with Args", ins(api.INew, 0, 1, 0, 0), api.ErrForm},

		{"put", ins(api.IPut, 2, 2, api.MaxFields-1), api.OK},
		{"put in field 4", ins(api.IPut, 0, 0, api.MaxFields), api.ErrRange},
		{"put in field -1", ins(api.IPut, 0, 0, -1), api.ErrRange},
		{"put in 3", ins(api.IPut, 3, 0, 0), api.ErrRange},
		{"put 3", ins(api.IPut, 0, 3, 0), api.ErrRange},
		{"put with Args", ins(api.IPut, 0, 0, 0, 0), api.ErrForm},

		{"call", ins(api.ICall, 2, 0, 0), api.OK},
		{"call of one", ins(api.ICall, 0, 1, 0, 2), api.OK},
		{"call of three", ins(api.ICall, 0, 2, 0, 0, 0, 2), api.OK},
		{"call to 3", ins(api.ICall, 3, 0, 0), api.ErrRange},
		{"procedure 3", ins(api.ICall, 0, 3, 0), api.ErrWho},
		{"procedure -1", ins(api.ICall, 0, -1, 0), api.ErrWho},
		{"call with C", ins(api.ICall, 0, 0, 1), api.ErrForm},
		{"one too many", ins(api.ICall, 0, 0, 0, 0), api.ErrForm},
		{"one too few", ins(api.ICall, 0, 1, 0), api.ErrForm},
		{"two of three", ins(api.ICall, 0, 2, 0, 0, 0), api.ErrForm},
		{"four of three", ins(api.ICall, 0, 2, 0, 0, 0, 0, 0), api.ErrForm},
		{"argument 3", ins(api.ICall, 0, 2, 0, 0, 0, 3), api.ErrRange},
		{"argument -1", ins(api.ICall, 0, 1, 0, -1), api.ErrRange},

		{"return", ins(api.IReturn, 2, 0, 0), api.OK},
		{"return 3", ins(api.IReturn, 3, 0, 0), api.ErrRange},
		{"return with B", ins(api.IReturn, 0, 1, 0), api.ErrForm},
		{"return with C", ins(api.IReturn, 0, 0, 1), api.ErrForm},
		{"return with Args", ins(api.IReturn, 0, 0, 0, 0), api.ErrForm},
		{"say", ins(api.ISay, 2, 0, 0), api.OK},
		{"say 3", ins(api.ISay, 3, 0, 0), api.ErrRange},
		{"say with B", ins(api.ISay, 0, 1, 0), api.ErrForm},
		{"go", ins(api.IGo, 2, 0, 0), api.OK},
		{"go to 3", ins(api.IGo, 3, 0, 0), api.ErrRange},
		{"go with C", ins(api.IGo, 0, 0, 1), api.ErrForm},

		{"pause", pause, api.OK},
		{"pause with A", ins(api.IPause, 1, 0, 0), api.ErrForm},
		{"pause with A that is none", ins(api.IPause, 3, 0, 0), api.ErrForm},
		{"pause with B", ins(api.IPause, 0, 1, 0), api.ErrForm},
		{"pause with C", ins(api.IPause, 0, 0, 1), api.ErrForm},
		{"pause with Args", ins(api.IPause, 0, 0, 0, 0), api.ErrForm},

		{"jump", ins(api.IJump, 0, 3, 0), api.OK},
		{"jump behind", ins(api.IJump, 0, 4, 0), api.ErrRange},
		{"jump ahead", ins(api.IJump, 0, -1, 0), api.ErrRange},
		{"jump with A", ins(api.IJump, 1, 0, 0), api.ErrForm},
		{"jump with A that is none", ins(api.IJump, 3, 0, 0), api.ErrForm},
		{"jump with C", ins(api.IJump, 0, 0, 1), api.ErrForm},
		{"jump with Args", ins(api.IJump, 0, 0, 0, 0), api.ErrForm},
		{"zero", ins(api.IZero, 2, 3, 0), api.OK},
		{"zero of 3", ins(api.IZero, 3, 0, 0), api.ErrRange},
		{"zero behind", ins(api.IZero, 0, 4, 0), api.ErrRange},
		{"zero ahead", ins(api.IZero, 0, -1, 0), api.ErrRange},
		{"zero with C", ins(api.IZero, 0, 0, 1), api.ErrForm},
	} {
		if got := Check(around(c.i)); got != c.want {
			t.Errorf("%s: %d, want %d", c.name, got, c.want)
		}
	}
}

// parts: what A, B, C and Args of each instruction are: r a register, n a number, w a width, f a field, p a procedure, j an instruction, o an operation, a arguments, - of no use.
var parts = map[int]string{
	api.INum: "rn--", api.IMove: "rr--", api.IOp: "rrro", api.IGet: "rrf-", api.INew: "rw--", api.IPut: "rrf-", api.ICall: "rp-a",
	api.IReturn: "r---", api.ISay: "r---", api.IPause: "----", api.IGo: "r---", api.IJump: "-j--", api.IZero: "rj--",
}

// reckoned: what is wrong with i in around(i), by its parts.
func reckoned(i api.Ins) api.Errno {
	form := parts[i.Op]
	if form == "" {
		return api.ErrForm
	}
	limits := map[byte][2]int{'r': {0, 2}, 'n': {-api.MaxValue, api.MaxValue}, 'w': {1, 4}, 'f': {0, 3}, 'p': {0, 2}, 'j': {0, 3}, '-': {0, 0}}
	params := []int{0, 1, 3}
	fields := []int{i.A, i.B, i.C}
	for _, phase := range []struct {
		kinds string
		err   api.Errno
	}{{"r", api.ErrRange}, {"p", api.ErrWho}, {"nwfjo", api.ErrRange}, {"-a", api.ErrForm}, {"A", api.ErrRange}} {
		for _, kind := range []byte(phase.kinds) {
			for k, n := range fields {
				if l := limits[kind]; form[k] == kind && (n < l[0] || n > l[1]) {
					return phase.err
				}
			}
			args := form[3]
			wrong := args == 'o' && kind == 'o' && (len(i.Args) != 1 || i.Args[0] < api.Plus || i.Args[0] > api.Same) ||
				args == '-' && kind == '-' && len(i.Args) > 0 ||
				args == 'a' && kind == 'a' && len(i.Args) != params[i.B] ||
				args == 'a' && kind == 'A' && slices.ContainsFunc(i.Args, func(r int) bool { return r < 0 || r > 2 })
			if wrong {
				return phase.err
			}
		}
	}
	return api.OK
}

// P4.1: which error of an instruction comes first: all instructions with small fields, or far off.
func TestCheckAllInstructions(t *testing.T) {
	const most = api.MaxValue
	args := [][]int{nil, {}, {-1}, {0}, {1}, {3}, {5}, {6}, {0, 1}, {0, 1, 2}, {0, 3, 2}, {1, 1, 1, 1}}
	seen := map[api.Errno]int{}
	for op := -1; op <= 14; op++ {
		for a := -1; a <= 3; a++ {
			for _, b := range []int{-most - 1, -most, -1, 0, 1, 2, 3, 4, 5, most, most + 1} {
				for c := -1; c <= 4; c++ {
					for _, l := range args {
						i := ins(op, a, b, c, l...)
						got, want := Check(around(i)), reckoned(i)
						seen[got]++
						if got != want {
							t.Fatalf("%+v: %d, want %d", i, got, want)
						}
					}
				}
			}
		}
	}
	if len(seen) != 4 {
		t.Errorf("errors that came: %v", seen)
	}
}

// P4.1: how many procedures, parameters, registers, instructions there may be.
func TestCheckHeads(t *testing.T) {
	with := func(n int) api.Proc { return proc(0, 1, append(slices.Repeat([]api.Ins{pause}, n-1), ret)...) }
	one := with(1)
	for _, c := range []struct {
		name string
		p    []api.Proc
		want api.Errno
	}{
		{"nil", nil, api.ErrMany},
		{"none", procs(), api.ErrMany},
		{"one", procs(one), api.OK},
		{"four", procs(one, one, one, one), api.OK},
		{"five", procs(one, one, one, one, one), api.ErrMany},
		{"five that aren't right", make([]api.Proc, 5), api.ErrMany},
		{"no register", procs(proc(0, 0, ret)), api.ErrRange},
		{"fewer than none", procs(proc(0, -1, ret)), api.ErrRange},
		{"all registers", procs(proc(0, api.MaxRegs, ins(api.IReturn, api.MaxRegs-1, 0, 0))), api.OK},
		{"one behind the last register", procs(proc(0, api.MaxRegs, ins(api.IReturn, api.MaxRegs, 0, 0))), api.ErrRange},
		{"one register more", procs(proc(0, api.MaxRegs+1, ret)), api.ErrRange},
		{"most registers", procs(proc(0, math.MaxInt, ret)), api.ErrRange},
		{"parameters of the first", procs(proc(1, 1, ret)), api.ErrRange},
		{"parameters of the second", procs(one, proc(1, 1, ret)), api.OK},
		{"most parameters", procs(one, proc(3, 3, ret)), api.OK},
		{"one parameter more", procs(one, proc(4, 4, ret)), api.ErrRange},
		{"fewer parameters than none", procs(one, proc(-1, 1, ret)), api.ErrRange},
		{"first with fewer parameters than none", procs(proc(-1, 1, ret)), api.ErrRange},
		{"fewer registers than parameters", procs(one, proc(3, 2, ret)), api.ErrRange},
		{"no code", procs(proc(0, 1)), api.ErrMany},
		{"nil code", procs(api.Proc{Regs: 1}), api.ErrMany},
		{"all code", procs(with(api.MaxCode)), api.OK},
		{"one instruction more", procs(with(api.MaxCode + 1)), api.ErrMany},
		{"second without code", procs(one, proc(0, 1)), api.ErrMany},
	} {
		if got := Check(c.p); got != c.want {
			t.Errorf("%s: %d, want %d", c.name, got, c.want)
		}
	}
}

// P4.1: what the last instruction may be.
func TestCheckEnd(t *testing.T) {
	for op := api.INum; op <= api.IZero; op++ {
		last := map[int]api.Ins{api.IOp: ins(api.IOp, 0, 0, 0, api.Plus), api.INew: ins(api.INew, 0, 1, 0)}[op]
		if last.Op == 0 {
			last = ins(op, 0, 0, 0)
		}
		want := api.ErrForm
		if op == api.IReturn || op == api.IJump {
			want = api.OK
		}
		if got := Check(procs(proc(0, 1, last))); got != want {
			t.Errorf("%+v alone: %d, want %d", last, got, want)
		}
		if got := Check(procs(proc(0, 1, last, ret), proc(0, 1, ret, last))); got != want {
			t.Errorf("%+v as the last of the second: %d, want %d", last, got, want)
		}
	}
	if got := Check(procs(proc(0, 1, ins(api.IJump, 0, 1, 0)))); got != api.ErrRange {
		t.Errorf("jump behind the end: %d", got)
	}
}

// P4.1, P3: which error comes first.
func TestCheckOrder(t *testing.T) {
	right, range3 := proc(0, 1, ret), ins(api.INum, 3, 0, 0)
	for _, c := range []struct {
		name string
		p    []api.Proc
		want api.Errno
	}{
		{"registers ahead of code", procs(proc(0, 0)), api.ErrRange},
		{"code of the first ahead of registers of the second", procs(proc(0, 1), proc(0, 0, ret)), api.ErrMany},
		{"registers of the first ahead of code of the second", procs(proc(0, 0, ret), proc(0, 1)), api.ErrRange},
		{"heads ahead of instructions", procs(proc(0, 1, bad), proc(0, 0, ret)), api.ErrRange},
		{"code of the second ahead of instructions of the first", procs(proc(0, 1, bad), proc(0, 1)), api.ErrMany},
		{"first instruction", procs(proc(0, 1, bad, range3)), api.ErrForm},
		{"first instruction, turned", procs(proc(0, 1, range3, bad)), api.ErrRange},
		{"first procedure", procs(right, proc(0, 1, range3, ret), proc(0, 1, bad)), api.ErrRange},
		{"end of the first ahead of the second", procs(proc(0, 1, pause), proc(0, 1, range3, ret)), api.ErrForm},
		{"instructions ahead of the end", procs(proc(0, 1, range3, pause)), api.ErrRange},
		{"last instruction ahead of being last", procs(proc(0, 1, range3)), api.ErrRange},
		{"a call's procedure that comes later", procs(proc(0, 1, ins(api.ICall, 0, 1, 0, 0), ret), proc(1, 1, ret)), api.OK},
		{"a call of itself", procs(proc(0, 1, ins(api.ICall, 0, 0, 0), ret)), api.OK},
		{"a jump by its own procedure", procs(proc(0, 1, ins(api.IJump, 0, 1, 0)), proc(0, 1, pause, ret)), api.ErrRange},
		{"registers by its own procedure", procs(proc(0, 2, ret), proc(0, 1, ins(api.IReturn, 1, 0, 0))), api.ErrRange},
	} {
		if got := Check(c.p); got != c.want {
			t.Errorf("%s: %d, want %d", c.name, got, c.want)
		}
	}
}

// P4.1: programs that differ in one field; right or not.
func TestSame(t *testing.T) {
	laid := func() []api.Proc {
		return procs(proc(0, 3, ins(api.ICall, 1, 1, 0, 2), ret), proc(1, 2, ins(77, -1, -2, -3, 4, 5)))
	}
	other := func(change func(p []api.Proc)) []api.Proc {
		p := laid()
		change(p)
		return p
	}
	if !Same(laid(), laid()) || !Same(nil, procs()) || !Same(nil, nil) {
		t.Error("alike aren't")
	}
	if !Same(procs(api.Proc{Code: []api.Ins{}}), procs(api.Proc{})) || !Same(procs(proc(0, 0, api.Ins{Args: []int{}})), procs(proc(0, 0, api.Ins{}))) {
		t.Error("nil and empty lists aren't alike")
	}
	for k, p := range [][]api.Proc{
		nil,
		laid()[:1],
		append(laid(), api.Proc{}),
		other(func(p []api.Proc) { p[0].Params = 1 }),
		other(func(p []api.Proc) { p[1].Regs = 3 }),
		other(func(p []api.Proc) { p[0], p[1] = p[1], p[0] }),
		other(func(p []api.Proc) { p[0].Code = p[0].Code[:1] }),
		other(func(p []api.Proc) { p[1].Code = nil }),
		other(func(p []api.Proc) { p[0].Code[0].Op = api.IPause }),
		other(func(p []api.Proc) { p[0].Code[0].A = 2 }),
		other(func(p []api.Proc) { p[0].Code[0].B = 0 }),
		other(func(p []api.Proc) { p[0].Code[1].C = 1 }),
		other(func(p []api.Proc) { p[0].Code[0].Args[0] = 1 }),
		other(func(p []api.Proc) { p[1].Code[0].Args = []int{4} }),
		other(func(p []api.Proc) { p[1].Code[0].Args = []int{5, 4} }),
	} {
		if Same(laid(), p) || Same(p, laid()) {
			t.Errorf("change %d isn't seen", k)
		}
	}
}

// roomy: a copy of l with something in the spare room behind it.
func roomy[T any](l []T, mark T) []T {
	return append(slices.Clone(l), mark, mark)[:len(l)]
}

// P2: Check and Same only read lists, and the spare room behind them.
func TestCheckReadOnly(t *testing.T) {
	laid := func() []api.Proc {
		p := roomy(around(ins(api.ICall, 0, 2, 0, 0, 0, 2)), api.Proc{Params: 77})
		for k := range p {
			p[k].Code = roomy(p[k].Code, bad)
			for j := range p[k].Code {
				p[k].Code[j].Args = roomy(p[k].Code[j].Args, 77)
			}
		}
		return p
	}
	whole := func(p []api.Proc) []any {
		l := []any{p[:cap(p)]}
		for _, q := range p {
			l = append(l, q.Code[:cap(q.Code)])
			for _, i := range q.Code {
				l = append(l, i.Args[:cap(i.Args)])
			}
		}
		return l
	}
	p := laid()
	if Check(p) != api.OK || !Same(p, laid()) {
		t.Fatal("it isn't right, or not like itself")
	}
	if !reflect.DeepEqual(whole(p), whole(laid())) {
		t.Error("the program was changed")
	}
}
