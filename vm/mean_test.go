package vm

import (
	"math/rand/v2"
	"slices"
	"strconv"
	"strings"
	"testing"

	"wanderer/api"
	"wanderer/code"
	"wanderer/source"
	"wanderer/words"
)

// What a source means, reckoned by chapter 2 alone, to be held against runs of what it is compiled to.

// meaning: a run of a source: what happened, the variables of all functions under way, and what is reckoned and waits for the rest.
type meaning struct {
	f      []api.Fun
	events []string
	vars   [][]any
	waits  []any
	left   int // how many statements and tokens it may still do
	led    int // how many cells something led to, at most, when one more was made
}

// returned is what a statement panics with that returns.
type returned struct{ v any }

// tired is what a run panics with that has done enough.
type tired struct{}

// mean: what a source does; without an end, if that would take too long.
func mean(f []api.Fun, left int) (m *meaning) {
	m = &meaning{f: f, left: left}
	defer func() {
		switch what := recover().(type) {
		case nil:
			m.events = append(m.events, "end")
		case failure:
			m.events = append(m.events, "fail")
		case tired:
		default:
			panic(what)
		}
	}()
	m.run(0, nil)
	return m
}

func (m *meaning) tell(what string, n int) {
	m.events = append(m.events, what+" "+strconv.Itoa(n))
}

func (m *meaning) spend() {
	if m.left--; m.left < 0 {
		panic(tired{})
	}
}

// run: what function k makes of its arguments.
func (m *meaning) run(k int, args []any) (v any) {
	must(len(m.vars) < api.MaxFrames)
	m.vars = append(m.vars, append(slices.Clone(args), make([]any, m.f[k].Locals-len(args))...))
	depth, waiting := len(m.vars), len(m.waits)
	defer func() {
		what := recover()
		if r, ok := what.(returned); ok {
			v = r.v
		} else if what != nil {
			panic(what)
		}
		m.vars, m.waits = m.vars[:depth-1], m.waits[:waiting]
	}()
	m.block(m.f[k].Body)
	return 0
}

func (m *meaning) block(l []api.Stmt) {
	for _, s := range l {
		m.spend()
		m.stmt(s)
	}
}

func isNumber(v any) int {
	n, ok := v.(int)
	must(ok)
	return n
}

func (m *meaning) stmt(s api.Stmt) {
	is := func() bool {
		v := m.expr(s.E)
		return v != nil && v != 0
	}
	switch s.Kind {
	case api.Set:
		v := m.expr(s.E)
		m.vars[len(m.vars)-1][s.N] = v
	case api.Put:
		m.waits = append(m.waits, m.expr(s.E))
		v := m.expr(s.F)
		cell := m.waits[len(m.waits)-1]
		m.waits = m.waits[:len(m.waits)-1]
		fieldsOf(cell, s.N)[s.N] = v
	case api.Say:
		m.tell("say", isNumber(m.expr(s.E)))
	case api.Pause:
		m.tell("pause", 0)
	case api.Go:
		m.tell("go", isNumber(m.expr(s.E)))
	case api.If:
		if is() {
			m.block(s.A)
		} else {
			m.block(s.B)
		}
	case api.While:
		for is() {
			m.spend()
			m.block(s.A)
		}
	case api.Return:
		panic(returned{m.expr(s.E)})
	}
}

// expr: what an expression is.
func (m *meaning) expr(e []api.Tok) any {
	v, _ := m.first(e)
	return v
}

// first: what the expression is with which e begins, and what is behind it.
func (m *meaning) first(e []api.Tok) (any, []api.Tok) {
	m.spend()
	t, e := e[0], e[1:]
	asked := map[int]int{api.Get: 1, api.Op: 2}[t.Kind]
	if t.Kind == api.Call {
		asked = m.f[t.N].Params
	}
	waiting := len(m.waits)
	for range asked {
		var v any
		v, e = m.first(e)
		m.waits = append(m.waits, v)
	}
	v := m.token(t, slices.Clone(m.waits[waiting:]))
	m.waits = m.waits[:waiting]
	return v, e
}

func (m *meaning) token(t api.Tok, of []any) any {
	switch t.Kind {
	case api.Num:
		return t.N
	case api.Local:
		return m.vars[len(m.vars)-1][t.N]
	case api.Op:
		return new(machine).operate(t.N, of[0], of[1])
	case api.Get:
		return fieldsOf(of[0], t.N)[t.N]
	case api.New:
		x := machine{plies: []ply{{regs: slices.Concat(append(slices.Clone(m.vars), m.waits)...)}}}
		x.sweep()
		m.led = max(m.led, len(x.boxes))
		return &box{make([]any, t.N)}
	}
	return m.run(t.N, of)
}

// compiled: what chapter 4 makes of f, and the state in which it begins.
func compiled(t *testing.T, f []api.Fun) ([]api.Proc, api.State) {
	t.Helper()
	p, err := code.Compile(f)
	if err != api.OK {
		t.Fatalf("it isn't compiled: %d", err)
	}
	s, err := New(p)
	if err != api.OK {
		t.Fatalf("it doesn't begin: %d", err)
	}
	return p, s
}

// events: what happens in a run, step by step; without an end, if that would take too long.
func events(t *testing.T, p []api.Proc, s api.State, steps int) (l []string) {
	t.Helper()
	tell := func(what string, n int) { l = append(l, what+" "+strconv.Itoa(n)) }
	for range steps {
		f := s.Frames[len(s.Frames)-1]
		i := p[f.Proc].Code[f.At]
		got, said, n, err := Run(p, s, 1)
		if err != api.OK || n != 1 {
			t.Fatalf("%+v: %d steps, %d", s, n, err)
		}
		for _, n := range said {
			tell("say", n)
		}
		switch {
		case got.Status == api.Ended:
			return append(l, "end")
		case got.Status == api.Failed:
			return append(l, "fail")
		case i.Op == api.IPause:
			tell("pause", 0)
		case got.Status == api.Going:
			tell("go", got.Where)
			got, _ = Wake(p, got)
		}
		s = got
	}
	return l
}

// sayings: the numbers of what is said there.
func sayings(events []string) (l []int) {
	for _, e := range events {
		if n, ok := strings.CutPrefix(e, "say "); ok {
			said, _ := strconv.Atoi(n)
			l = append(l, said)
		}
	}
	return l
}

// agree: a run of f does what f means, in slices of some lengths, too; false: there isn't room for its cells.
func agree(t *testing.T, f []api.Fun, lengths ...int) bool {
	t.Helper()
	const some = 500
	m := mean(f, some)
	if m.led >= api.MaxCells {
		return false
	}
	text, _ := words.Print(f)
	p, s := compiled(t, f)
	got, want := events(t, p, s, 6*some), m.events
	if m.left < 0 && len(got) > len(want) {
		got = got[:len(want)]
	}
	if !slices.Equal(got, want) {
		t.Fatalf("%v, want %v: %s", got, want, text)
	}
	for _, n := range lengths {
		all, _ := drive(t, p, s, 6*some, of(n), asItIs)
		swept, _ := drive(t, p, s, 6*some, of(n), Sweep)
		said := sayings(want)
		if m.left < 0 && len(all) > len(said) {
			all, swept = all[:len(said)], swept[:min(len(swept), len(said))]
		}
		if !slices.Equal(all, said) || !slices.Equal(swept, said) {
			t.Fatalf("in slices of %d it says %v, swept %v, want %v: %s", n, all, swept, said, text)
		}
	}
	return true
}

// P6.3, P6.5, P4.2, P2.3: programs told by hand, compiled and run in slices of every length.
func TestMeaning(t *testing.T) {
	const (
		deeper = " fun 1 1 { if v0 { return + 1 f1 - v0 1 } { return 0 } }"
		list   = " fun 1 2 { while v0 { set 1 f2 v1 set 0 - v0 1 } return v1 } fun 1 2 { set 1 new1 put 0 v1 v0 return v1 }"
	)
	for _, c := range []struct{ name, text, want string }{
		{"the document's", "fun 0 1 { set 0 3 while v0 { say v0 go v0 set 0 - v0 1 } }", "say 3, go 3, say 2, go 2, say 1, go 1, end"},
		{"nothing", "fun 0 0 { }", "end"},
		{"operations", "fun 0 0 { say + 7 5 say - 7 5 say * 7 5 say < 7 5 say < 5 7 say = 7 5 say = 7 7 }", "say 12, say 2, say 35, say 0, say 1, say 0, say 1, end"},
		{"cells", "fun 0 2 { set 0 new2 put 0 v0 3 put 1 v0 v0 set 1 .1 .1 v0 put 0 v1 + .0 v1 1 say .0 v0 say = .1 v0 v1 say = v0 new2 }", "say 4, say 1, say 0, end"},
		{"pauses", "fun 0 0 { pause say 1 pause pause go -1 say 2 pause }", "pause 0, say 1, pause 0, pause 0, go -1, say 2, pause 0, end"},
		{"if and while", "fun 0 2 { if v0 { say 1 } { say 2 } if new1 { say 3 } { } set 1 2 while v1 { say v1 set 1 - v1 1 } }", "say 2, say 3, say 2, say 1, end"},
		{"calls in order", "fun 0 0 { say f1 f2 1 f2 2 f2 4 } fun 3 3 { return - v0 - v1 v2 } fun 1 1 { say v0 return * v0 v0 }", "say 1, say 2, say 4, say 13, end"},
		{"pause and go in what is called", "fun 0 0 { say + 1 f1 } fun 0 0 { pause go 2 return 3 }", "pause 0, go 2, say 4, end"},
		{"0 at the end", "fun 0 0 { say f1 } fun 0 3 { set 0 7 }", "say 0, end"},
		{"most runs", "fun 0 0 { say f1 8 }" + deeper, "say 8, end"},
		{"one run more", "fun 0 0 { say 1 say f1 9 }" + deeper, "say 1, fail"},
		{"say nothing", "fun 0 1 { say 1 say v0 say 2 }", "say 1, fail"},
		{"both are reckoned", "fun 0 1 { say + v0 f1 } fun 0 0 { say 1 }", "say 1, fail"},
		{"too great", "fun 0 0 { say + 1000000000 0 say + 1000000000 1 }", "say 1000000000, fail"},
		{"no such field", "fun 0 1 { set 0 new2 if .1 v0 { } { say 1 } set 0 .2 v0 }", "say 1, fail"},
		{"cells that are dropped", "fun 0 2 { set 0 100 while v0 { set 1 new4 set 0 - v0 1 } say 1 }", "say 1, end"},
		{"as many cells as there may be", "fun 0 1 { set 0 f1 24 say 1 }" + list, "say 1, end"},
		{"dropped, made again", "fun 0 1 { set 0 f1 24 set 0 0 set 0 f1 24 say 1 }" + list, "say 1, end"},
	} {
		f, err := words.Parse(c.text)
		if err != api.OK {
			t.Fatalf("%s: %d", c.name, err)
		}
		p, s := compiled(t, f)
		if got := strings.Join(events(t, p, s, 9000), ", "); got != c.want {
			t.Errorf("%s: %s, want %s", c.name, got, c.want)
		}
		if got := strings.Join(mean(f, 9000).events, ", "); got != c.want {
			t.Errorf("%s means %s, want %s", c.name, got, c.want)
		}
		if !agree(t, f, upTo(70)...) {
			t.Errorf("%s: there isn't room", c.name)
		}
	}
	f, _ := words.Parse("fun 0 1 { say 1 set 0 f1 25 say 2 }" + list)
	p, s := compiled(t, f)
	if got := strings.Join(events(t, p, s, 9000), ", "); got != "say 1, fail" {
		t.Errorf("one cell more: %s", got)
	}
}

// writer: random sources. Variables with odd numbers mostly hold cells, and field 1 of a cell.
type writer struct {
	*rand.Rand
	f    []api.Fun
	at   int
	left int
}

func (w *writer) program() []api.Fun {
	w.f = make([]api.Fun, 1+w.IntN(api.MaxFuns))
	for k := range w.f {
		if k > 0 {
			w.f[k].Params = w.IntN(api.MaxParams + 1)
		}
		w.f[k].Locals = w.f[k].Params + w.IntN(api.MaxLocals+1-w.f[k].Params)
	}
	for k, fun := range w.f {
		w.at, w.left = k, 1+w.IntN(api.MaxNodes)
		var first []api.Stmt
		for v := fun.Params; v < fun.Locals && w.left > 1 && w.IntN(8) > 0; v++ {
			w.left--
			first = append(first, api.Stmt{Kind: api.Set, N: v, E: w.expr(v%2 == 1)})
		}
		w.f[k].Body = append(first, w.block(1)...)
	}
	return w.f
}

func (w *writer) block(depth int) (l []api.Stmt) {
	for n := w.IntN(8); n > 0 && w.left > 0 && depth <= api.MaxDepth; n-- {
		w.left--
		l = append(l, w.stmt(depth))
	}
	return l
}

func (w *writer) stmt(depth int) api.Stmt {
	s := api.Stmt{Kind: 1 + w.IntN(api.Return)}
	locals := w.f[w.at].Locals
	if s.Kind == api.Set && locals == 0 || s.Kind == api.Return && w.IntN(3) > 0 {
		s.Kind = api.Say
	}
	switch s.Kind {
	case api.Set:
		s.N = w.IntN(locals)
		s.E = w.expr(s.N%2 == 1)
	case api.Put:
		s.N = w.IntN(2)
		s.E, s.F = w.expr(true), w.expr(s.N == 1)
	case api.Pause:
	case api.If, api.While:
		s.E = w.expr(w.IntN(4) == 0)
		s.A = w.block(depth + 1)
		if s.Kind == api.If {
			s.B = w.block(depth + 1)
		}
	default:
		s.E = w.expr(s.Kind == api.Return && w.at%2 == 1)
	}
	return s
}

// expr: an expression, a cell or a number, if all goes well.
func (w *writer) expr(cell bool) []api.Tok {
	for {
		if e := w.tokens(cell, 3); len(e) <= api.MaxToks {
			return e
		}
	}
}

func (w *writer) tokens(cell bool, depth int) []api.Tok {
	if w.IntN(60) == 0 {
		cell = !cell
	}
	tok := func(kind, n int, l ...[]api.Tok) []api.Tok {
		return append([]api.Tok{{Kind: kind, N: n}}, slices.Concat(l...)...)
	}
	want := truthOf(cell)
	if n := w.f[w.at].Locals; n > want && w.IntN(3) == 0 {
		return tok(api.Local, w.IntN((n-want+1)/2)*2+want)
	}
	if k := w.IntN(len(w.f)); depth > 0 && k > w.at && k%2 == want && w.IntN(2) == 0 || w.IntN(60) == 0 {
		var args [][]api.Tok
		for n := range w.f[k].Params {
			args = append(args, w.tokens(n%2 == 1, depth-1))
		}
		return tok(api.Call, k, args...)
	}
	switch {
	case cell && depth > 0 && w.IntN(3) == 0:
		return tok(api.Get, 1, w.tokens(true, depth-1))
	case cell:
		return tok(api.New, 2+w.IntN(api.MaxFields-1))
	case depth == 0 || w.IntN(3) == 0:
		return tok(api.Num, w.IntN(5)-1)
	case w.IntN(4) == 0:
		return tok(api.Get, 0, w.tokens(true, depth-1))
	}
	op := 1 + w.IntN(api.Same)
	any := op == api.Same && w.IntN(2) == 0
	return tok(api.Op, op, w.tokens(any, depth-1), w.tokens(any, depth-1))
}

// P6.3, P6.5, P4.2, P2.3: random programs, compiled, do what they mean, however their runs are cut.
func TestMeaningRandom(t *testing.T) {
	w := &writer{Rand: rand.New(rand.NewPCG(6, 42))}
	seen := map[string]int{}
	for range 2500 {
		f := w.program()
		if err := source.Check(f); err != api.OK {
			t.Fatalf("the program isn't right: %d", err)
		}
		if !agree(t, f, 1+w.IntN(4), 1+w.IntN(60), api.MaxFuel) {
			seen["no room"]++
			continue
		}
		for _, s := range mean(f, 500).events {
			seen[strings.Fields(s)[0]]++
		}
	}
	for _, what := range []string{"say", "pause", "go", "end", "fail"} {
		if seen[what] < 300 {
			t.Errorf("%s came %d times: the programs say little", what, seen[what])
		}
	}
}
