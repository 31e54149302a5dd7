package code

import (
	"math/rand/v2"
	"reflect"
	"slices"
	"strings"
	"testing"

	"wanderer/api"
	"wanderer/source"
	"wanderer/words"
)

func parsed(t *testing.T, text string) []api.Fun {
	t.Helper()
	f, err := words.Parse(text)
	if err != api.OK {
		t.Fatalf("%q: %d", text, err)
	}
	return f
}

// compiled: what Compile answers, if that is as many right procedures.
func compiled(t *testing.T, f []api.Fun) []api.Proc {
	t.Helper()
	p, err := Compile(f)
	if err != api.OK || Check(p) != api.OK || len(p) != len(f) {
		text, _ := words.Print(f)
		t.Fatalf("%d, %d procedures of %d functions, which are %d: %s", err, len(p), len(f), Check(p), text)
	}
	for k := range p {
		if p[k].Params != f[k].Params {
			t.Fatalf("procedure %d has %d parameters, want %d", k, p[k].Params, f[k].Params)
		}
	}
	return p
}

const (
	much    = 20000
	anyRoom = 1 << 20
)

// told: what came of a run, but for calls and new cells.
func told(r track) string {
	events := slices.DeleteFunc(r.events, func(s string) bool {
		return strings.HasPrefix(s, "call") || strings.HasPrefix(s, "new")
	})
	return strings.Join(events, ", ")
}

// P4.2: what programs do, told by hand.
func TestCompile(t *testing.T) {
	const deeper = " fun 1 1 { if v0 { return + 1 f1 - v0 1 } { return 0 } }"
	for _, c := range []struct{ name, text, want string }{
		{"nothing", "fun 0 0 { }", "end"},
		{"all variables, nothing", "fun 0 6 { }", "end"},
		{"the document's", "fun 0 1 { set 0 3 while v0 { say v0 go v0 set 0 - v0 1 } }", "say 3, go 3, say 2, go 2, say 1, go 1, end"},
		{"numbers", "fun 0 0 { say 1000000000 say -1000000000 say 0 }", "say 1000000000, say -1000000000, say 0, end"},
		{"operations", "fun 0 0 { say + 7 5 say - 7 5 say * 7 5 say < 7 5 say < 5 7 say = 7 5 say = 7 7 }", "say 12, say 2, say 35, say 0, say 1, say 0, say 1, end"},
		{"operations in operations", "fun 0 0 { say - - 9 - 5 1 - * 2 3 4 say - 20 - 8 - 4 1 }", "say 3, say 15, end"},
		{"operations of variables", "fun 0 2 { set 0 7 set 1 5 say - v0 v1 say - v1 v0 say - v0 - v1 1 say - - v0 1 v1 }", "say 2, say -2, say 3, say 1, end"},
		{"a variable of itself", "fun 0 1 { set 0 5 set 0 v0 say v0 set 0 - * v0 v0 v0 say v0 set 0 - 1 v0 say v0 }", "say 5, say 20, say -19, end"},
		{"variables turned", "fun 0 3 { set 0 1 set 1 2 set 2 v0 set 0 v1 set 1 v2 say v0 say v1 say v2 }", "say 2, say 1, say 1, end"},
		{"same of any", "fun 0 4 { set 0 new1 set 1 v0 set 2 new1 say = v0 v1 say = v0 v2 say = v3 v3 say = v3 0 say = v3 v0 say = new1 new1 }", "say 1, say 0, say 1, say 0, say 0, say 0, end"},
		{"cells", "fun 0 2 { set 0 new2 put 0 v0 3 put 1 v0 v0 set 1 .1 .1 v0 put 0 v1 + .0 v1 1 say .0 v0 say = .1 v0 v1 }", "say 4, say 1, end"},
		{"last field", "fun 0 1 { set 0 new4 put 3 v0 9 say .3 v0 }", "say 9, end"},
		{"pauses, goes", "fun 0 0 { pause go 2 pause pause go -1 }", "pause 0, go 2, pause 0, pause 0, go -1, end"},
		{"if", "fun 0 2 { if 2 { say 1 } { say 2 } if 0 { say 3 } { say 4 } if v0 { say 5 } { say 6 } if new1 { say 7 } { say 8 } if -1 { } { say 9 } if 0 { say 10 } { } if 0 { } { } say 11 }", "say 1, say 4, say 6, say 7, say 11, end"},
		{"if in if", "fun 0 1 { if 1 { if 0 { say 1 } { if 1 { say 2 } { say 3 } say 4 } say 5 } { say 6 } say 7 }", "say 2, say 4, say 5, say 7, end"},
		{"while of 0, of nothing", "fun 0 1 { while 0 { say 1 } while v0 { say 2 } say 3 }", "say 3, end"},
		{"while in while", "fun 0 2 { set 0 2 while v0 { set 1 v0 while v1 { say v1 set 1 - v1 1 } set 0 - v0 1 } }", "say 2, say 1, say 1, end"},
		{"while of a list", "fun 0 2 { set 0 new1 put 0 v0 new1 while v0 { say 1 set 0 .0 v0 } }", "say 1, say 1, end"},
		{"return ends", "fun 0 0 { say 1 return 5 say 2 }", "say 1, end"},
		{"return of a cell ends", "fun 0 0 { return new2 say 2 }", "end"},
		{"return in while in if", "fun 0 0 { if 1 { while 1 { say 1 return 0 } } { } say 2 }", "say 1, end"},
		{"calls", "fun 0 0 { say f1 9 4 } fun 2 2 { return - v0 v1 }", "say 5, end"},
		{"arguments in order", "fun 0 0 { say f1 f2 1 f2 2 f2 4 } fun 3 3 { return - v0 - v1 v2 } fun 1 1 { say v0 return * v0 v0 }", "say 1, say 2, say 4, say 13, end"},
		{"operands in order", "fun 0 0 { say - f1 7 f1 2 } fun 1 1 { say v0 return v0 }", "say 7, say 2, say 5, end"},
		{"parts of put in order", "fun 0 1 { set 0 new1 put 0 f1 f2 say .0 v0 } fun 0 0 { say 1 return new1 } fun 0 0 { say 2 return 3 }", "say 1, say 2, fail"},
		{"put in what is called", "fun 0 1 { set 0 new1 put 0 f1 v0 f2 v0 say .0 v0 } fun 1 1 { put 0 v0 1 return v0 } fun 1 1 { return + .0 v0 1 }", "say 2, end"},
		{"0 at the end", "fun 0 0 { say f1 } fun 0 3 { set 0 7 }", "say 0, end"},
		{"0 at the end of an if", "fun 0 0 { say f1 0 say f1 1 } fun 1 1 { if v0 { return 5 } { } }", "say 0, say 5, end"},
		{"variables are nothing at first", "fun 0 0 { say f1 3 say f1 3 } fun 1 2 { if v1 { return 1 } { set 1 v0 } return v1 }", "say 3, say 3, end"},
		{"variables are its own", "fun 0 1 { set 0 1 say f1 v0 say v0 } fun 1 1 { set 0 + v0 1 return v0 }", "say 2, say 1, end"},
		{"calls of itself", "fun 0 0 { say f1 5 } fun 1 1 { if < v0 2 { return 1 } { return * v0 f1 - v0 1 } }", "say 120, end"},
		{"pause and go in what is called", "fun 0 0 { say + 1 f1 } fun 0 0 { pause go 2 return 3 }", "pause 0, go 2, say 4, end"},
		{"most runs", "fun 0 0 { say f1 8 }" + deeper, "say 8, end"},
		{"one run more", "fun 0 0 { say f1 9 }" + deeper, "fail"},
		{"first calls itself", "fun 0 0 { say 1 say f0 }", "say 1, say 1, say 1, say 1, say 1, say 1, say 1, say 1, say 1, say 1, fail"},
		{"fails: say nothing", "fun 0 1 { say 1 say v0 say 2 }", "say 1, fail"},
		{"fails: say a cell", "fun 0 0 { say 1 say new1 say 2 }", "say 1, fail"},
		{"fails: go nowhere", "fun 0 1 { go v0 }", "fail"},
		{"fails: plus nothing", "fun 0 1 { say + f1 v0 } fun 0 0 { say 1 }", "say 1, fail"},
		{"fails when both are reckoned", "fun 0 1 { say + v0 f1 } fun 0 0 { say 1 }", "say 1, fail"},
		{"fails: less of a cell", "fun 0 0 { say 1 if < new1 2 { } { } say 2 }", "say 1, fail"},
		{"fails: too great", "fun 0 0 { say + 1000000000 0 say + 1000000000 1 }", "say 1000000000, fail"},
		{"fails: too small", "fun 0 0 { say - -1000000000 0 say - -1000000000 1 }", "say -1000000000, fail"},
		{"fails: product", "fun 0 1 { set 0 * 1000000000 1000000000 }", "fail"},
		{"fails: get of a number", "fun 0 0 { say 1 say .0 5 }", "say 1, fail"},
		{"fails: get of nothing", "fun 0 2 { set 1 .0 v0 }", "fail"},
		{"fails: no such field", "fun 0 1 { set 0 new2 if .1 v0 { } { say 1 } set 0 .2 v0 }", "say 1, fail"},
		{"fails: put in a number", "fun 0 0 { put 0 1 f1 } fun 0 0 { say 1 }", "say 1, fail"},
		{"fails: put in no field", "fun 0 1 { set 0 new1 put 0 v0 1 say 1 put 1 v0 1 say 2 }", "say 1, fail"},
	} {
		if got := told(do(compiled(t, parsed(t, c.text)), much, anyRoom)); got != c.want {
			t.Errorf("%s: %s, want %s", c.name, got, c.want)
		}
	}
}

// P4.2: chapter 2's Check's error, and nothing else.
func TestCompileWrong(t *testing.T) {
	tok := func(kind, n int) []api.Tok { return []api.Tok{{Kind: kind, N: n}} }
	one := tok(api.Num, 1)
	stmt := func(s api.Stmt) []api.Fun { return []api.Fun{{Locals: 1, Body: []api.Stmt{s}}} }
	deep := []api.Stmt{{Kind: api.Pause}}
	for range api.MaxDepth {
		deep = []api.Stmt{{Kind: api.While, E: one, A: deep}}
	}
	for _, c := range []struct {
		name string
		f    []api.Fun
		want api.Errno
	}{
		{"nil", nil, api.ErrMany},
		{"none", []api.Fun{}, api.ErrMany},
		{"five", make([]api.Fun, 5), api.ErrMany},
		{"parameters of the first", []api.Fun{{Params: 1, Locals: 1}}, api.ErrRange},
		{"too many variables", []api.Fun{{Locals: api.MaxLocals + 1}}, api.ErrRange},
		{"too many statements", []api.Fun{{Body: make([]api.Stmt, api.MaxNodes+1)}}, api.ErrMany},
		{"too deep", []api.Fun{{Body: deep}}, api.ErrMany},
		{"no kind", stmt(api.Stmt{}), api.ErrForm},
		{"pause of something", stmt(api.Stmt{Kind: api.Pause, E: one}), api.ErrForm},
		{"no such variable", stmt(api.Stmt{Kind: api.Set, N: 1, E: one}), api.ErrRange},
		{"no expression", stmt(api.Stmt{Kind: api.Say}), api.ErrForm},
		{"an expression that isn't over", stmt(api.Stmt{Kind: api.Say, E: tok(api.Op, api.Plus)}), api.ErrForm},
		{"no such function", stmt(api.Stmt{Kind: api.Say, E: tok(api.Call, 1)}), api.ErrWho},
		{"too many tokens", stmt(api.Stmt{Kind: api.Say, E: slices.Repeat(one, api.MaxToks+1)}), api.ErrMany},
		{"fault in the last", append(stmt(api.Stmt{Kind: api.Pause}), stmt(api.Stmt{Kind: 9})...), api.ErrForm},
	} {
		if p, err := Compile(c.f); p != nil || err != c.want || err != source.Check(c.f) {
			t.Errorf("%s: %v, %d, want nothing, %d", c.name, p, err, c.want)
		}
	}
}

// counted: how many there are of each kind of token and statement, in a body.
func counted(l []api.Stmt) (toks, stmts map[int]int) {
	toks, stmts = map[int]int{}, map[int]int{}
	for _, s := range l {
		stmts[s.Kind]++
		for _, t := range slices.Concat(s.E, s.F) {
			toks[t.Kind]++
		}
		for _, inner := range [][]api.Stmt{s.A, s.B} {
			moreToks, moreStmts := counted(inner)
			for k, n := range moreToks {
				toks[k] += n
			}
			for k, n := range moreStmts {
				stmts[k] += n
			}
		}
	}
	return toks, stmts
}

// agree: what Compile makes of f does what f means, with an ICall for each Call, an IPause for each Pause, an IGo for each Go.
// Where registers are cleared at once it has no more cells to keep than f, of which what is called keeps the arguments of the call.
func agree(t *testing.T, f []api.Fun, atOnce bool) {
	t.Helper()
	p := compiled(t, f)
	text, _ := words.Print(f)
	for k, q := range p {
		toks, stmts := counted(f[k].Body)
		ops := map[int]int{}
		for _, i := range q.Code {
			ops[i.Op]++
		}
		if ops[api.ICall] != toks[api.Call] || ops[api.IPause] != stmts[api.Pause] || ops[api.IGo] != stmts[api.Go] {
			t.Fatalf("%d calls, %d pauses, %d goes: %s", ops[api.ICall], ops[api.IPause], ops[api.IGo], text)
		}
	}
	const some = 2000
	want, got := mean(f, some, anyRoom), do(p, 10*some, anyRoom)
	if want.left < 0 && len(got.events) > len(want.events) {
		got.events = got.events[:len(want.events)]
	}
	if !slices.Equal(got.events, want.events) {
		t.Fatalf("%v, want %v: %s", got.events, want.events, text)
	}
	for k, n := range want.led {
		if atOnce && got.led[k] > n {
			t.Fatalf("cell %d: %d are kept, want %d: %s", k, got.led[k], n, text)
		}
	}
}

// writer: random programs. Variables with even numbers mostly are numbers, the others cells.
type writer struct {
	*rand.Rand
	f    []api.Fun
	at   int
	left int
}

func (w *writer) program() []api.Fun {
	w.f = make([]api.Fun, 1+w.IntN(api.MaxFuns))
	for k := range w.f {
		if k > 0 {
			w.f[k].Params = w.IntN(api.MaxParams + 1)
		}
		w.f[k].Locals = w.f[k].Params + w.IntN(api.MaxLocals+1-w.f[k].Params)
	}
	for k := range w.f {
		w.at, w.left = k, 1+w.IntN(api.MaxNodes)
		var first []api.Stmt
		for v := w.f[k].Params; v < w.f[k].Locals && w.left > 1 && w.IntN(8) > 0; v++ {
			w.left--
			first = append(first, api.Stmt{Kind: api.Set, N: v, E: w.expr(v%2 == 1)})
		}
		w.f[k].Body = append(first, w.block(1)...)
	}
	return w.f
}

func (w *writer) block(depth int) (l []api.Stmt) {
	for n := w.IntN(8); n > 0 && w.left > 0; n-- {
		w.left--
		l = append(l, w.stmt(depth))
	}
	return l
}

func (w *writer) stmt(depth int) api.Stmt {
	s := api.Stmt{Kind: 1 + w.IntN(api.Return)}
	locals := w.f[w.at].Locals
	if s.Kind == api.Set && locals == 0 || s.Kind == api.Return && w.IntN(3) > 0 {
		s.Kind = api.Say
	}
	switch s.Kind {
	case api.Set:
		s.N = w.IntN(locals)
		s.E = w.expr(s.N%2 == 1)
	case api.Put:
		s.N = w.IntN(2)
		s.E, s.F = w.expr(true), w.expr(w.IntN(2) == 0)
	case api.Pause:
	case api.If, api.While:
		s.E = w.expr(w.IntN(4) == 0)
		if depth < api.MaxDepth {
			s.A = w.block(depth + 1)
		}
		if depth < api.MaxDepth && s.Kind == api.If {
			s.B = w.block(depth + 1)
		}
	default:
		s.E = w.expr(s.Kind == api.Return && w.at%2 == 1)
	}
	return s
}

// expr: an expression, a cell or a number, if all goes well.
func (w *writer) expr(cell bool) []api.Tok {
	for {
		if e := w.tokens(cell, 3); len(e) <= api.MaxToks {
			return e
		}
	}
}

func (w *writer) tokens(cell bool, depth int) []api.Tok {
	if w.IntN(60) == 0 {
		cell = !cell
	}
	tok := func(kind, n int, l ...[]api.Tok) []api.Tok {
		return append([]api.Tok{{Kind: kind, N: n}}, slices.Concat(l...)...)
	}
	want := map[bool]int{true: 1}[cell]
	if n := w.f[w.at].Locals; n > want && w.IntN(3) == 0 {
		return tok(api.Local, w.IntN((n-want+1)/2)*2+want)
	}
	if k := w.IntN(len(w.f)); depth > 0 && k > w.at && k%2 == want && w.IntN(2) == 0 || w.IntN(60) == 0 {
		var args [][]api.Tok
		for n := range w.f[k].Params {
			args = append(args, w.tokens(n%2 == 1, depth-1))
		}
		return tok(api.Call, k, args...)
	}
	switch {
	case cell && depth > 0 && w.IntN(3) == 0:
		return tok(api.Get, 1, w.tokens(true, depth-1))
	case cell:
		return tok(api.New, 2+w.IntN(api.MaxFields-1))
	case depth == 0 || w.IntN(3) == 0:
		return tok(api.Num, w.IntN(5)-1)
	case w.IntN(4) == 0:
		return tok(api.Get, 0, w.tokens(true, depth-1))
	}
	op := 1 + w.IntN(api.Same)
	any := op == api.Same && w.IntN(2) == 0
	return tok(api.Op, op, w.tokens(any, depth-1), w.tokens(any, depth-1))
}

// P4.2: random programs do what they mean.
func TestCompileRandom(t *testing.T) {
	w := &writer{Rand: rand.New(rand.NewPCG(4, 2))}
	ends := map[string]int{}
	for range 12000 {
		f := w.program()
		if err := source.Check(f); err != api.OK {
			t.Fatalf("the program isn't right: %d", err)
		}
		agree(t, f, true)
		events := mean(f, 2000, anyRoom).events
		for _, s := range events {
			ends[strings.Fields(s)[0]]++
		}
	}
	for _, what := range []string{"say", "pause", "go", "call", "new", "end", "fail"} {
		if ends[what] < 1000 {
			t.Errorf("%s came %d times: the programs say little", what, ends[what])
		}
	}
}

// exact: an expression with just n tokens, where functions 0 to 3 have 0, 3, 2, 1 parameters.
func (w *writer) exact(n int) []api.Tok {
	leaves := []api.Tok{{Kind: api.Num, N: 1}, {Kind: api.Local, N: 5}, {Kind: api.New, N: 1}, {Kind: api.Call}}
	by := [][]api.Tok{leaves, {{Kind: api.Get}, {Kind: api.Call, N: 3}}, {{Kind: api.Op, N: api.Same}, {Kind: api.Op, N: api.Plus}, {Kind: api.Call, N: 2}}, {{Kind: api.Call, N: 1}}}
	asked := 0
	if n > 1 {
		asked = 1 + w.IntN(min(n-1, 3))
	}
	e := []api.Tok{by[asked][w.IntN(len(by[asked]))]}
	for left := n - 1; asked > 0; asked-- {
		part := left
		if asked > 1 {
			part = 1 + w.IntN(left-asked+1)
		}
		e = append(e, w.exact(part)...)
		left -= part
	}
	return e
}

// full: functions with as many statements as there may be, of one kind (or of any), each with expressions that e makes.
func full(w *writer, kind int, e func() []api.Tok) []api.Fun {
	f := make([]api.Fun, 4)
	for k := range f {
		f[k] = api.Fun{Params: []int{0, 3, 2, 1}[k], Locals: api.MaxLocals}
		for range api.MaxNodes {
			s := api.Stmt{Kind: kind}
			if kind == 0 {
				s.Kind = 1 + w.IntN(api.Return)
			}
			if s.Kind != api.Pause {
				s.E = e()
			}
			if s.Kind == api.Put {
				s.F = e()
			}
			f[k].Body = append(f[k].Body, s)
		}
	}
	return f
}

// P4.2: the longest functions, with the longest expressions: there is room for the code, if it is to be.
func TestCompileLongest(t *testing.T) {
	w := &writer{Rand: rand.New(rand.NewPCG(4, 24))}
	three := parsed(t, "fun 0 0 { say f1 new1 new1 f1 new1 new1 f1 new1 new1 f1 new1 new1 f1 new1 new1 f1 new1 new1 f1 new1 new1 f2 new1 new1 } fun 3 3 { } fun 2 2 { }")[0].Body[0].E
	made := slices.Repeat([]api.Tok{{Kind: api.New, N: 1}}, 12)
	pairs := append(slices.Repeat([]api.Tok{{Kind: api.Op, N: api.Same}}, 11), made...)
	shapes := []func() []api.Tok{
		func() []api.Tok { return three },
		func() []api.Tok { return append([]api.Tok{{Kind: api.Get}}, pairs...) },
		func() []api.Tok { return append(slices.Repeat([]api.Tok{{Kind: api.Get}}, 23), made[0]) },
		func() []api.Tok { return w.exact(api.MaxToks) },
	}
	most, regs := 0, 0
	for k, e := range shapes {
		if n := len(e()); n != api.MaxToks {
			t.Fatalf("shape %d has %d tokens", k, n)
		}
		for kind := 0; kind <= api.Return; kind++ {
			for range 6 {
				f := full(w, kind, e)
				if err := source.Check(f); err != api.OK {
					t.Fatalf("the program isn't right: %d", err)
				}
				agree(t, f, false)
				for _, q := range compiled(t, f) {
					most, regs = max(most, len(q.Code)), max(regs, q.Regs)
				}
			}
		}
	}
	if most != 1982 || regs != 23 {
		t.Errorf("at most %d instructions and %d registers, want 1982, 23", most, regs)
	}
}

// P4.2: what nothing asks for any more takes no room from cells that are asked for: with all the room that there is, lists are made again and again.
func TestCompileRoom(t *testing.T) {
	const list = " fun 1 2 { while v0 { set 1 f2 v1 set 0 - v0 1 } return v1 } fun 1 2 { set 1 new1 put 0 v1 v0 return v1 }"
	for _, c := range []struct{ name, text, want string }{
		{"cells that are dropped", "fun 0 2 { set 0 100 while v0 { set 1 new4 set 0 - v0 1 } say 1 }", "say 1, end"},
		{"as many as there may be", "fun 0 1 { set 0 f1 24 say 1 }" + list, "say 1, end"},
		{"one more", "fun 0 1 { set 0 f1 25 say 1 }" + list, "fail"},
		{"dropped, made again", "fun 0 1 { set 0 f1 24 set 0 0 set 0 f1 24 say 1 }" + list, "say 1, end"},
		{"asked, if it is there", "fun 0 1 { if f1 24 { set 0 f1 24 say 1 } { } set 0 0 set 0 f1 24 say 2 }" + list, "say 1, say 2, end"},
		{"asked again and again", "fun 0 2 { set 1 3 while f1 * 8 v1 { say v1 set 0 f1 24 set 0 0 set 1 - v1 1 } set 0 f1 24 say 4 }" + list, "say 3, say 2, say 1, say 4, end"},
		{"held against each other", "fun 0 1 { say = f1 12 f1 12 set 0 f1 24 say 1 }" + list, "say 0, say 1, end"},
		{"held against each other in an expression", "fun 0 1 { say + = f1 12 f1 12 = f1 24 0 }" + list, "say 0, end"},
		{"put somewhere", "fun 0 1 { put 0 f1 1 f1 23 set 0 f1 24 say 1 }" + list, "say 1, end"},
		{"a field of it", "fun 0 1 { set 0 .0 .0 f1 24 set 0 + 1 = .0 v0 0 set 0 f1 24 say 1 }" + list, "say 1, end"},
		{"arguments", "fun 0 1 { set 0 f3 f1 12 f1 12 set 0 f1 24 say 1 }" + list + " fun 2 2 { }", "say 1, end"},
		{"arguments in an expression", "fun 0 1 { say + f3 f1 12 f1 12 f3 f1 12 f1 12 }" + list + " fun 2 2 { }", "say 0, end"},
	} {
		if got := told(do(compiled(t, parsed(t, c.text)), much, api.MaxCells)); got != c.want {
			t.Errorf("%s: %s, want %s", c.name, got, c.want)
		}
	}
}

// P4.2: so it is in a function that is too long for registers to be cleared at once, from statement to statement.
func TestCompileRoomLong(t *testing.T) {
	const list = " fun 1 2 { while v0 { set 1 f2 v1 set 0 - v0 1 } return v1 } fun 1 2 { set 1 new1 put 0 v1 v0 return v1 } fun 3 3 { }"
	long := strings.Repeat("f3 new1 new1 ", 7) + "= new1 new1 "
	tail := "return 0 " + strings.Repeat("put 0 "+long+long, 26) + "}" + list
	for _, c := range []struct{ text, want string }{
		{"fun 0 1 { if = f1 12 f1 12 { } { set 0 f1 24 say 1 } ", "say 1, end"},
		{"fun 0 1 { while = f1 12 f1 12 { } set 0 f1 24 say 1 ", "say 1, end"},
		{"fun 0 1 { if f1 24 { set 0 f1 24 say 1 } { } ", "say 1, end"},
		{"fun 0 1 { set 0 = f1 12 f1 12 set 0 f1 24 say 1 ", "say 1, end"},
		{"fun 0 1 { put 0 f1 1 f1 23 set 0 f1 24 say 1 ", "say 1, end"},
		{"fun 0 1 { set 0 f3 f1 8 f1 8 f1 8 set 0 f1 24 say 1 ", "say 1, end"},
	} {
		f := parsed(t, c.text+tail)
		if n := len(lay(f[0], f, true).code); n <= api.MaxCode {
			t.Fatalf("%s: there is room for %d instructions", c.text, n)
		}
		if got := told(do(compiled(t, f), much, api.MaxCells)); got != c.want {
			t.Errorf("%s: %s, want %s", c.text, got, c.want)
		}
	}
}

// No instruction is laid without need: how many there are of the first function.
func TestCompileShort(t *testing.T) {
	for text, want := range map[string]int{
		"fun 0 0 { }":                                   2,
		"fun 0 0 { pause say 1 go 2 }":                  7,
		"fun 0 2 { set 0 v1 set 1 5 set 0 + v0 v1 }":    5,
		"fun 0 1 { put 0 v0 v0 say .0 v0 }":             5,
		"fun 0 1 { say + .0 v0 .1 v0 }":                 6,
		"fun 0 1 { set 0 + .0 v0 .1 v0 }":               5,
		"fun 0 1 { say .0 .1 .2 v0 }":                   6,
		"fun 0 1 { if v0 { } { } if v0 { pause } { } }": 5,
		"fun 0 1 { if v0 { pause } { pause } }":         6,
		"fun 0 1 { while v0 { pause } }":                5,
		"fun 0 0 { return new1 }":                       4,
		"fun 0 0 { say f0 go f0 }":                      6,
		"fun 0 1 { set 0 = new1 new1 }":                 7,
		"fun 0 1 { set 0 = 1 2 }":                       5,
		"fun 0 1 { if = new1 v0 { pause } { } }":        6,
	} {
		if got := len(compiled(t, parsed(t, text))[0].Code); got != want {
			t.Errorf("%s: %d, want %d", text, got, want)
		}
	}
}

const sample = "fun 0 2 { set 1 new2 put 1 v1 -5 if < .1 v1 0 { say f1 v0 v1 } { pause } while = v0 f1 v1 f1 v0 v1 { go 10 } } fun 2 3 { return * v0 v2 }"

// P2: Compile only reads lists, and the spare room behind them.
func TestCompileReadOnly(t *testing.T) {
	laid := func() []api.Fun {
		f := roomy(parsed(t, sample), api.Fun{Params: 77})
		f[0].Body = roomy(f[0].Body, api.Stmt{Kind: 77})
		for k, s := range f[0].Body {
			tok, stmt := api.Tok{Kind: 77}, api.Stmt{Kind: 77}
			s.E, s.F, s.A, s.B = roomy(s.E, tok), roomy(s.F, tok), roomy(s.A, stmt), roomy(s.B, stmt)
			f[0].Body[k] = s
		}
		return f
	}
	whole := func(f []api.Fun) []any {
		l := []any{f[:cap(f)], f[0].Body[:cap(f[0].Body)]}
		for _, s := range f[0].Body {
			l = append(l, s.E[:cap(s.E)], s.F[:cap(s.F)], s.A[:cap(s.A)], s.B[:cap(s.B)])
		}
		return l
	}
	f := laid()
	compiled(t, f)
	if !reflect.DeepEqual(whole(f), whole(laid())) {
		t.Error("the source was changed")
	}
}

// P2: no two lists of what Compile answers share memory, not even behind their ends, and none is kept.
func TestCompileNewMemory(t *testing.T) {
	f := parsed(t, sample)
	p := compiled(t, f)
	var args [][]int
	for k, q := range p {
		for j, i := range q.Code[:cap(q.Code)] {
			args = append(args, i.Args)
			q.Code[:cap(q.Code)][j].Op = k
		}
	}
	for k, q := range p {
		for _, i := range q.Code[:cap(q.Code)] {
			if i.Op != k {
				t.Errorf("procedures %d and %d share memory", k, i.Op)
			}
		}
	}
	for k, l := range args {
		for j := range l[:cap(l)] {
			l[:cap(l)][j] = k
		}
	}
	for k, l := range args {
		for _, n := range l[:cap(l)] {
			if n != k {
				t.Errorf("arguments %d and %d share memory", k, n)
			}
		}
	}
	agree(t, f, true)
}
