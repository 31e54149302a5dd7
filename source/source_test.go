package source

import (
	"math"
	"reflect"
	"slices"
	"testing"

	"wanderer/api"
)

func tok(kind, n int) api.Tok { return api.Tok{Kind: kind, N: n} }

func expr(e ...api.Tok) []api.Tok { return e }

func body(l ...api.Stmt) []api.Stmt { return l }

var (
	one   = tok(api.Num, 1)
	v0    = tok(api.Local, 0)
	plus  = tok(api.Op, api.Plus)
	get   = tok(api.Get, 0)
	made  = tok(api.New, 1)
	pause = api.Stmt{Kind: api.Pause}
	say   = api.Stmt{Kind: api.Say, E: []api.Tok{one}}
)

// withParams: functions with so many parameters, and variables.
func withParams(params ...int) []api.Fun {
	l := make([]api.Fun, len(params))
	for k, n := range params {
		l[k] = api.Fun{Params: n, Locals: n}
	}
	return l
}

// sum: of n numbers, as an expression of 2n-1 tokens.
func sum(n int) []api.Tok {
	return append(slices.Repeat(expr(plus), n-1), slices.Repeat(expr(one), n)...)
}

// P2.1: one token, by its kind and limits, in a program of two functions without parameters, with three variables.
func TestExprTokens(t *testing.T) {
	for _, c := range []struct {
		name   string
		kind   int
		n      int
		behind []api.Tok
		want   api.Errno
	}{
		{"kind 0", 0, 0, nil, api.ErrForm},
		{"kind -1", -1, 0, nil, api.ErrForm},
		{"kind 7", 7, 0, nil, api.ErrForm},
		{"greatest kind", math.MaxInt, 1, nil, api.ErrForm},
		{"least kind", math.MinInt, 1, nil, api.ErrForm},
		{"kind 7, far off", 7, math.MaxInt, nil, api.ErrForm},
		{"number 0", api.Num, 0, nil, api.OK},
		{"greatest number", api.Num, api.MaxValue, nil, api.OK},
		{"one more", api.Num, api.MaxValue + 1, nil, api.ErrRange},
		{"least number", api.Num, -api.MaxValue, nil, api.OK},
		{"one less", api.Num, -api.MaxValue - 1, nil, api.ErrRange},
		{"greatest int", api.Num, math.MaxInt, nil, api.ErrRange},
		{"least int", api.Num, math.MinInt, nil, api.ErrRange},
		{"first variable", api.Local, 0, nil, api.OK},
		{"last variable", api.Local, 2, nil, api.OK},
		{"behind the last", api.Local, 3, nil, api.ErrRange},
		{"ahead of the first", api.Local, -1, nil, api.ErrRange},
		{"least variable", api.Local, math.MinInt, nil, api.ErrRange},
		{"operation 0", api.Op, 0, expr(one, one), api.ErrRange},
		{"first operation", api.Op, api.Plus, expr(one, one), api.OK},
		{"last operation", api.Op, api.Same, expr(one, one), api.OK},
		{"operation 6", api.Op, 6, expr(one, one), api.ErrRange},
		{"operation -1", api.Op, -1, expr(one, one), api.ErrRange},
		{"first field", api.Get, 0, expr(one), api.OK},
		{"last field", api.Get, api.MaxFields - 1, expr(one), api.OK},
		{"behind the last field", api.Get, api.MaxFields, expr(one), api.ErrRange},
		{"ahead of the first field", api.Get, -1, expr(one), api.ErrRange},
		{"cell without fields", api.New, 0, nil, api.ErrRange},
		{"smallest cell", api.New, 1, nil, api.OK},
		{"greatest cell", api.New, api.MaxFields, nil, api.OK},
		{"one field more", api.New, api.MaxFields + 1, nil, api.ErrRange},
		{"fewer fields than none", api.New, -1, nil, api.ErrRange},
		{"first function", api.Call, 0, nil, api.OK},
		{"last function", api.Call, 1, nil, api.OK},
		{"behind the last function", api.Call, 2, nil, api.ErrWho},
		{"ahead of the first function", api.Call, -1, nil, api.ErrWho},
		{"greatest function", api.Call, math.MaxInt, nil, api.ErrWho},
		{"least function", api.Call, math.MinInt, nil, api.ErrWho},
	} {
		e := append(expr(tok(c.kind, c.n)), c.behind...)
		if got := Expr(e, withParams(0, 0), 3); got != c.want {
			t.Errorf("%s: %d, want %d", c.name, got, c.want)
		}
	}
}

// P2.1: how many expressions stand behind a token.
func TestExprForm(t *testing.T) {
	f := withParams(0, 1, 2, 3)
	call := func(n int) api.Tok { return tok(api.Call, n) }
	for _, c := range []struct {
		name string
		e    []api.Tok
		want api.Errno
	}{
		{"nil", nil, api.ErrForm},
		{"empty", expr(), api.ErrForm},
		{"number", expr(one), api.OK},
		{"two numbers", expr(one, one), api.ErrForm},
		{"variable, and more", expr(v0, one), api.ErrForm},
		{"new, and more", expr(made, one), api.ErrForm},
		{"op of none", expr(plus), api.ErrForm},
		{"op of one", expr(plus, one), api.ErrForm},
		{"op of two", expr(plus, one, v0), api.OK},
		{"op of three", expr(plus, one, v0, one), api.ErrForm},
		{"op behind its numbers", expr(one, one, plus), api.ErrForm},
		{"op between its numbers", expr(one, plus, one), api.ErrForm},
		{"get of none", expr(get), api.ErrForm},
		{"get of one", expr(get, made), api.OK},
		{"get of two", expr(get, made, one), api.ErrForm},
		{"get of get", expr(get, get, v0), api.OK},
		{"call of none", expr(call(0)), api.OK},
		{"call of none, and more", expr(call(0), one), api.ErrForm},
		{"call of one without", expr(call(1)), api.ErrForm},
		{"call of one", expr(call(1), one), api.OK},
		{"call of one with two", expr(call(1), one, one), api.ErrForm},
		{"call of two with one", expr(call(2), one), api.ErrForm},
		{"call of two", expr(call(2), one, v0), api.OK},
		{"call of three with two", expr(call(3), one, v0), api.ErrForm},
		{"call of three", expr(call(3), one, v0, made), api.OK},
		{"call of three with four", expr(call(3), one, v0, made, one), api.ErrForm},
		{"nested", expr(plus, get, call(3), one, plus, v0, v0, call(0), call(1), made), api.OK},
		{"nested, one short", expr(plus, get, call(3), one, plus, v0, v0, call(0), call(1)), api.ErrForm},
	} {
		if got := Expr(c.e, f, 1); got != c.want {
			t.Errorf("%s: %d, want %d", c.name, got, c.want)
		}
	}
}

// P2.1: the limits of an expression, of functions, of variables; which error is told first.
func TestExprLimits(t *testing.T) {
	bad, far := tok(9, 0), tok(api.Num, math.MaxInt)
	who := tok(api.Call, 2)
	two := withParams(0, 2)
	for _, c := range []struct {
		name   string
		e      []api.Tok
		f      []api.Fun
		locals int
		want   api.Errno
	}{
		{"as many tokens as there may be", append(expr(get), sum(12)...), two, 1, api.OK},
		{"one more", sum(13), two, 1, api.ErrMany},
		{"as many that aren't over", slices.Repeat(expr(get), api.MaxToks), two, 1, api.ErrForm},
		{"too many, of no kind, bad functions", make([]api.Tok, api.MaxToks+1), withParams(-1), 1, api.ErrMany},
		{"no functions, nil", expr(one), nil, 1, api.OK},
		{"no functions, empty", expr(one), []api.Fun{}, 1, api.OK},
		{"no functions, a call", expr(tok(api.Call, 0)), nil, 1, api.ErrWho},
		{"more functions than a program has", expr(tok(api.Call, 8)), make([]api.Fun, 9), 1, api.OK},
		{"most parameters", expr(one), withParams(0, api.MaxParams), 1, api.OK},
		{"the first one with parameters", expr(tok(api.Call, 0), one), withParams(1), 1, api.OK},
		{"one parameter more", expr(one), withParams(0, api.MaxParams+1), 1, api.ErrRange},
		{"fewer parameters than none", expr(one), withParams(-1, 0), 1, api.ErrRange},
		{"far too many parameters", expr(tok(api.Call, 0)), withParams(math.MaxInt), 1, api.ErrRange},
		{"bad parameters, and no expression", nil, withParams(0, 0, 4), 1, api.ErrRange},
		{"bad parameters ahead of a bad kind", expr(bad), withParams(0, 4), 1, api.ErrRange},
		{"parameters alone are looked at", expr(one), []api.Fun{{Locals: -5, Body: body(api.Stmt{Kind: 99})}}, 1, api.OK},
		{"no variables", expr(v0), two, 0, api.ErrRange},
		{"fewer variables than none", expr(v0), two, -1, api.ErrRange},
		{"least of variables", expr(v0), two, math.MinInt, api.ErrRange},
		{"least of variables, below", expr(tok(api.Local, -1)), two, math.MinInt, api.ErrRange},
		{"more variables than a function has", expr(tok(api.Local, 6)), two, 7, api.OK},
		{"most variables", expr(tok(api.Local, math.MaxInt-1)), two, math.MaxInt, api.OK},
		{"no variables, none named", expr(one), two, math.MinInt, api.OK},
		{"over, then a bad kind", expr(one, bad), two, 1, api.ErrForm},
		{"over, then no function", expr(one, who), two, 1, api.ErrWho},
		{"over, then out of range", expr(one, far), two, 1, api.ErrRange},
		{"over, twice, then no function", expr(one, one, who), two, 1, api.ErrForm},
		{"a bad kind ahead of no function", expr(plus, bad, who), two, 1, api.ErrForm},
		{"no function ahead of a bad kind", expr(plus, who, bad), two, 1, api.ErrWho},
		{"out of range ahead of no function", expr(plus, far, who), two, 1, api.ErrRange},
		{"out of range, and not over", expr(plus, far), two, 1, api.ErrRange},
		{"no function, and not over", expr(plus, who), two, 1, api.ErrWho},
	} {
		if got := Expr(c.e, c.f, c.locals); got != c.want {
			t.Errorf("%s: %d, want %d", c.name, got, c.want)
		}
	}
}

// readOne: how much of e its first expression takes, told by the chapter's first line; -1: it isn't over.
func readOne(e []api.Tok, f []api.Fun) int {
	if len(e) == 0 {
		return -1
	}
	behind := map[int]int{api.Get: 1, api.Op: 2}[e[0].Kind]
	if e[0].Kind == api.Call {
		behind = f[e[0].N].Params
	}
	at := 1
	for range behind {
		n := readOne(e[at:], f)
		if n < 0 {
			return -1
		}
		at += n
	}
	return at
}

// slowExpr: the error of e by readOne; of tokens it knows the wrong ones by name.
func slowExpr(e []api.Tok, f []api.Fun, wrong map[api.Tok]api.Errno) api.Errno {
	for k, x := range e {
		if wrong[x] != api.OK {
			return wrong[x]
		}
		if n := readOne(e[:k], f); n >= 0 {
			return api.ErrForm
		}
	}
	if readOne(e, f) != len(e) {
		return api.ErrForm
	}
	return api.OK
}

// P2.1: all short expressions of some tokens, right and wrong, against a slow reading.
func TestExprAll(t *testing.T) {
	f := withParams(0, 1, 3)
	wrong := map[api.Tok]api.Errno{
		tok(0, 0):                     api.ErrForm,
		tok(api.Call, 3):              api.ErrWho,
		tok(api.New, api.MaxFields+1): api.ErrRange,
		tok(api.Get, api.MaxFields):   api.ErrRange,
	}
	some := expr(one, tok(api.Local, 1), plus, get, tok(api.Call, 0), tok(api.Call, 1), tok(api.Call, 2))
	for x := range wrong {
		some = append(some, x)
	}
	right := 0
	var try func(e []api.Tok)
	try = func(e []api.Tok) {
		want := slowExpr(e, f, wrong)
		if got := Expr(e, f, 2); got != want {
			t.Fatalf("%v: %d, want %d", e, got, want)
		}
		if want == api.OK {
			right++
		}
		if len(e) == 5 {
			return
		}
		for _, x := range some {
			try(append(slices.Clone(e), x))
		}
	}
	try(nil)
	if right < 100 {
		t.Errorf("only %d right ones were tried", right)
	}
}

// P2.2: how many functions, their parameters and variables; which error is told first.
func TestCheckFunctions(t *testing.T) {
	fun := func(params, locals int) api.Fun { return api.Fun{Params: params, Locals: locals} }
	wrong := api.Fun{Body: body(api.Stmt{})}
	for _, c := range []struct {
		name string
		f    []api.Fun
		want api.Errno
	}{
		{"nil", nil, api.ErrMany},
		{"empty", []api.Fun{}, api.ErrMany},
		{"one", make([]api.Fun, 1), api.OK},
		{"most", make([]api.Fun, api.MaxFuns), api.OK},
		{"one more", make([]api.Fun, api.MaxFuns+1), api.ErrMany},
		{"one more, all wrong", slices.Repeat([]api.Fun{fun(-1, 9)}, api.MaxFuns+1), api.ErrMany},
		{"most variables", []api.Fun{fun(0, api.MaxLocals)}, api.OK},
		{"one more variable", []api.Fun{fun(0, api.MaxLocals+1)}, api.ErrRange},
		{"fewer variables than none", []api.Fun{fun(0, -1)}, api.ErrRange},
		{"least of variables", []api.Fun{fun(0, math.MinInt)}, api.ErrRange},
		{"fewer of both than none", []api.Fun{fun(-1, -1)}, api.ErrRange},
		{"fewer parameters than none", []api.Fun{fun(0, 0), fun(-1, 3)}, api.ErrRange},
		{"the first one with a parameter", []api.Fun{fun(1, 1)}, api.ErrRange},
		{"the second one with a parameter", []api.Fun{fun(0, 0), fun(1, 1)}, api.OK},
		{"most parameters", []api.Fun{fun(0, 0), fun(api.MaxParams, api.MaxParams)}, api.OK},
		{"most of both", []api.Fun{fun(0, 0), fun(api.MaxParams, api.MaxLocals)}, api.OK},
		{"one parameter more", []api.Fun{fun(0, 0), fun(api.MaxParams+1, api.MaxLocals)}, api.ErrRange},
		{"fewer variables than parameters", []api.Fun{fun(0, 0), fun(2, 1)}, api.ErrRange},
		{"the last one's range ahead of the first one's statements", []api.Fun{wrong, fun(0, 0), fun(0, 0), fun(0, 7)}, api.ErrRange},
		{"a statement of the last one", []api.Fun{fun(0, 0), fun(0, 0), fun(0, 0), wrong}, api.ErrForm},
		{"bodies that are empty", []api.Fun{{Body: body()}, {Body: nil}}, api.OK},
	} {
		if got := Check(c.f); got != c.want {
			t.Errorf("%s: %d, want %d", c.name, got, c.want)
		}
	}
}

// nest: s in so many Whiles, one in the other.
func nest(n int, s ...api.Stmt) []api.Stmt {
	for range n {
		s = body(api.Stmt{Kind: api.While, E: expr(one), A: s})
	}
	return s
}

// branch: an If of these.
func branch(a, b []api.Stmt) api.Stmt {
	return api.Stmt{Kind: api.If, E: expr(one), A: a, B: b}
}

// P2.2: how many statements, and how deep.
func TestCheckSize(t *testing.T) {
	some := func(n int) []api.Stmt { return slices.Repeat(body(pause), n) }
	hollow := api.Stmt{Kind: api.If, E: expr(one), A: body(), B: body()}
	for _, c := range []struct {
		name string
		body []api.Stmt
		want api.Errno
	}{
		{"most", some(api.MaxNodes), api.OK},
		{"one more", some(api.MaxNodes + 1), api.ErrMany},
		{"one more, of no kind", make([]api.Stmt, api.MaxNodes+1), api.ErrMany},
		{"most, with those in A and B", append(some(9), branch(some(10), some(10))), api.OK},
		{"one more in Body", append(some(10), branch(some(10), some(10))), api.ErrMany},
		{"one more in A", append(some(9), branch(some(11), some(10))), api.ErrMany},
		{"one more in B", append(some(9), branch(some(10), some(11))), api.ErrMany},
		{"most, all at the bottom", nest(3, some(27)...), api.OK},
		{"one more, all at the bottom", nest(3, some(28)...), api.ErrMany},
		{"deepest", nest(api.MaxDepth-1, pause), api.OK},
		{"one deeper", nest(api.MaxDepth, pause), api.ErrMany},
		{"empty A at the greatest depth", nest(api.MaxDepth, body()...), api.OK},
		{"nil A at the greatest depth", nest(api.MaxDepth), api.OK},
		{"empty A and B at the greatest depth", nest(api.MaxDepth-1, hollow), api.OK},
		{"empty A and B one deeper", nest(api.MaxDepth, hollow), api.ErrMany},
		{"deepest in B", nest(2, branch(nil, body(pause))), api.OK},
		{"one deeper in B", nest(3, branch(nil, body(pause))), api.ErrMany},
		{"one deeper in the last", append(some(1), nest(api.MaxDepth, pause)...), api.ErrMany},
		{"one deeper, behind one of no kind", append(make([]api.Stmt, 1), nest(api.MaxDepth, pause)...), api.ErrMany},
		{"an A of one that may have none counts", append(make([]api.Stmt, 5), api.Stmt{Kind: api.Pause, A: some(25)}), api.ErrMany},
		{"a B of one that may have none counts", append(make([]api.Stmt, 5), api.Stmt{Kind: api.Say, B: some(25)}), api.ErrMany},
		{"an A of one that may have none is deep", nest(3, api.Stmt{Kind: api.Pause, A: body(pause)}), api.ErrMany},
		{"an A of one that may have none, not too deep", nest(2, api.Stmt{Kind: api.Pause, A: body(pause)}), api.ErrForm},
		{"very deep", nest(100000, pause), api.ErrMany},
		{"very long", make([]api.Stmt, 100000), api.ErrMany},
	} {
		if got := Check([]api.Fun{{Body: c.body}}); got != c.want {
			t.Errorf("%s: %d, want %d", c.name, got, c.want)
		}
	}
}

// P2.2: what is more than can be gone through is told all the same.
func TestCheckEnds(t *testing.T) {
	wide := body(pause)
	for range 100 {
		wide = body(branch(wide, wide))
	}
	if got := Check([]api.Fun{{Body: wide}}); got != api.ErrMany {
		t.Errorf("twice as many at each depth: %d, want %d", got, api.ErrMany)
	}
}

// P2.2: each function's size, and then its statements, ahead of the next function's.
func TestCheckOrder(t *testing.T) {
	many := api.Fun{Body: make([]api.Stmt, api.MaxNodes+1)}
	form := api.Fun{Body: body(api.Stmt{})}
	set := api.Fun{Body: body(api.Stmt{Kind: api.Set, E: expr(one)})}
	who := api.Fun{Body: body(api.Stmt{Kind: api.Say, E: expr(tok(api.Call, 9))})}
	good := api.Fun{Body: body(say)}
	for _, c := range []struct {
		name string
		f    []api.Fun
		want api.Errno
	}{
		{"form, many", []api.Fun{form, many}, api.ErrForm},
		{"many, form", []api.Fun{many, form}, api.ErrMany},
		{"range, form", []api.Fun{set, form}, api.ErrRange},
		{"form, range", []api.Fun{form, set}, api.ErrForm},
		{"good, who, many", []api.Fun{good, who, many}, api.ErrWho},
		{"good, many, who", []api.Fun{good, many, who}, api.ErrMany},
		{"good, good", []api.Fun{good, good}, api.OK},
	} {
		if got := Check(c.f); got != c.want {
			t.Errorf("%s: %d, want %d", c.name, got, c.want)
		}
	}
}

// P2.2: statement by statement, each ahead of what is in its A, and then B.
func TestCheckStatementOrder(t *testing.T) {
	form := api.Stmt{}
	far := api.Stmt{Kind: api.Set, N: 6, E: expr(one)}
	who := api.Stmt{Kind: api.Say, E: expr(tok(api.Call, 9))}
	bare := api.Stmt{Kind: api.If, A: body(who), B: body(far)}
	for _, c := range []struct {
		name string
		body []api.Stmt
		want api.Errno
	}{
		{"form, far", body(form, far), api.ErrForm},
		{"far, form", body(far, form), api.ErrRange},
		{"who, form", body(who, form), api.ErrWho},
		{"A ahead of B", body(branch(body(who), body(far))), api.ErrWho},
		{"A ahead of B, turned", body(branch(body(far), body(who))), api.ErrRange},
		{"B, if A is good", body(branch(body(say), body(who))), api.ErrWho},
		{"itself ahead of A and B", body(bare), api.ErrForm},
		{"A ahead of the next", body(branch(body(say, who), nil), far), api.ErrWho},
		{"B ahead of the next", body(branch(nil, body(say, who)), far), api.ErrWho},
		{"deep A ahead of B", body(branch(nest(2, far), body(who))), api.ErrRange},
		{"an A of a While", nest(3, who), api.ErrWho},
		{"good A and B, then far", body(branch(body(say), body(pause)), far), api.ErrRange},
	} {
		if got := Check([]api.Fun{{Locals: 6, Body: c.body}}); got != c.want {
			t.Errorf("%s: %d, want %d", c.name, got, c.want)
		}
	}
}

// uses: what the statements use, as the chapter tells it, by kind.
var uses = map[int]string{
	api.Set:    "NE",
	api.Put:    "NEF",
	api.Say:    "E",
	api.Pause:  "",
	api.Go:     "E",
	api.If:     "EAB",
	api.While:  "EA",
	api.Return: "E",
}

// slowStmt: the error of a statement whose A and B are good or empty, in a function with so many locals; errE and errF are those of its expressions.
func slowStmt(s api.Stmt, locals int, errE, errF api.Errno) api.Errno {
	use, there := uses[s.Kind]
	has := map[rune]bool{'N': s.N != 0, 'E': len(s.E) > 0, 'F': len(s.F) > 0, 'A': len(s.A) > 0, 'B': len(s.B) > 0}
	for _, r := range use {
		delete(has, r)
	}
	for _, y := range has {
		if y || !there {
			return api.ErrForm
		}
	}
	limit := map[int]int{api.Set: locals, api.Put: api.MaxFields}[s.Kind]
	if limit > 0 && (s.N < 0 || s.N >= limit) {
		return api.ErrRange
	}
	if s.Kind == api.Pause {
		return api.OK
	}
	if errE != api.OK || s.Kind != api.Put {
		return errE
	}
	return errF
}

// P2.2: all statements of some parts, right and wrong, against a table of what they use.
func TestCheckStatements(t *testing.T) {
	parts := []struct {
		e   []api.Tok
		err api.Errno
	}{
		{nil, api.ErrForm},
		{expr(), api.ErrForm},
		{expr(one), api.OK},
		{expr(v0), api.OK},
		{expr(plus, one, v0), api.OK},
		{expr(one, one), api.ErrForm},
		{expr(tok(api.Call, 2)), api.ErrWho},
		{expr(tok(api.Local, 3)), api.ErrRange},
		{slices.Repeat(expr(get), api.MaxToks+1), api.ErrMany},
	}
	inner := [][]api.Stmt{nil, {}, {pause}}
	tried := map[api.Errno]int{}
	try := func(s api.Stmt, errE, errF api.Errno) {
		want := slowStmt(s, 3, errE, errF)
		tried[want]++
		if got := Check([]api.Fun{{Locals: 3, Body: body(s)}, {Params: 1, Locals: 1}}); got != want {
			t.Fatalf("%+v: %d, want %d", s, got, want)
		}
	}
	for kind := -1; kind <= 10; kind++ {
		for _, n := range []int{math.MinInt, -1, 0, 1, 2, 3, 4, 5, math.MaxInt} {
			for _, e := range parts {
				for _, f := range parts {
					for _, a := range inner {
						for _, b := range inner {
							try(api.Stmt{Kind: kind, N: n, E: e.e, F: f.e, A: a, B: b}, e.err, f.err)
						}
					}
				}
			}
		}
	}
	for _, err := range []api.Errno{api.OK, api.ErrMany, api.ErrRange, api.ErrForm, api.ErrWho} {
		if tried[err] == 0 {
			t.Errorf("no statement was tried whose error is %d", err)
		}
	}
}

// P2.2: an expression of a function knows that function's variables, and all functions.
func TestCheckExpressions(t *testing.T) {
	saying := func(locals int, e ...api.Tok) api.Fun {
		return api.Fun{Locals: locals, Body: nest(3, api.Stmt{Kind: api.Say, E: e})}
	}
	last := api.Fun{Params: 3, Locals: 3}
	call := tok(api.Call, 2)
	for _, c := range []struct {
		name string
		f    []api.Fun
		want api.Errno
	}{
		{"a variable of it", []api.Fun{saying(1, v0), saying(2, tok(api.Local, 1))}, api.OK},
		{"a variable of the other", []api.Fun{saying(2, v0), saying(1, tok(api.Local, 1))}, api.ErrRange},
		{"a call of the last", []api.Fun{saying(0, call, one, one, one), {}, last}, api.OK},
		{"a call of the last, one short", []api.Fun{saying(0, call, one, one), {}, last}, api.ErrForm},
		{"a call of itself", []api.Fun{saying(0, tok(api.Call, 0))}, api.OK},
		{"a call of none", []api.Fun{saying(0, call, one, one, one), {}}, api.ErrWho},
	} {
		if got := Check(c.f); got != c.want {
			t.Errorf("%s: %d, want %d", c.name, got, c.want)
		}
	}
}

// sample: a program that has all there is, new at each call.
func sample() []api.Fun {
	inner := body(api.Stmt{Kind: api.Put, N: 1, E: expr(v0), F: expr(one)}, say)
	return []api.Fun{
		{Locals: 2, Body: body(
			api.Stmt{Kind: api.Set, N: 1, E: expr(tok(api.New, 2))},
			api.Stmt{Kind: api.If, E: expr(plus, v0, one), A: nest(1, inner...), B: body(pause)},
			api.Stmt{Kind: api.Go, E: expr(tok(api.Call, 1), one, v0)},
		)},
		{Params: 2, Locals: 3, Body: body(api.Stmt{Kind: api.Return, E: expr(v0)})},
	}
}

// P2.2: a change of any field, however deep, is told; an empty list and a nil one are alike.
func TestSame(t *testing.T) {
	inner := func(f []api.Fun) *api.Stmt { return &f[0].Body[1].A[0].A[0] }
	for name, change := range map[string]func(f []api.Fun){
		"Params":       func(f []api.Fun) { f[1].Params++ },
		"Locals":       func(f []api.Fun) { f[1].Locals++ },
		"no Body":      func(f []api.Fun) { f[1].Body = nil },
		"longer Body":  func(f []api.Fun) { f[1].Body = append(f[1].Body, pause) },
		"Kind":         func(f []api.Fun) { f[0].Body[0].Kind++ },
		"N":            func(f []api.Fun) { f[0].Body[0].N++ },
		"E":            func(f []api.Fun) { f[0].Body[0].E[0].N++ },
		"E's kind":     func(f []api.Fun) { f[0].Body[0].E[0].Kind++ },
		"no E":         func(f []api.Fun) { f[0].Body[0].E = nil },
		"longer E":     func(f []api.Fun) { f[0].Body[2].E = append(f[0].Body[2].E, one) },
		"an F":         func(f []api.Fun) { f[0].Body[0].F = expr(one) },
		"no A":         func(f []api.Fun) { f[0].Body[1].A = nil },
		"an A":         func(f []api.Fun) { f[0].Body[0].A = body(pause) },
		"no B":         func(f []api.Fun) { f[0].Body[1].B = nil },
		"B's kind":     func(f []api.Fun) { f[0].Body[1].B[0].Kind = 0 },
		"a B":          func(f []api.Fun) { f[0].Body[2].B = body(pause) },
		"A and B":      func(f []api.Fun) { s := &f[0].Body[1]; s.A, s.B = s.B, s.A },
		"inner Kind":   func(f []api.Fun) { inner(f).Kind = -7 },
		"inner N":      func(f []api.Fun) { inner(f).N = 99 },
		"inner E":      func(f []api.Fun) { inner(f).E[0].N++ },
		"inner F":      func(f []api.Fun) { inner(f).F[0].N++ },
		"inner B":      func(f []api.Fun) { inner(f).B = body(pause) },
		"inner, two":   func(f []api.Fun) { l := f[0].Body[1].A[0].A; l[0], l[1] = l[1], l[0] },
		"two fewer":    func(f []api.Fun) { f[0].Body = f[0].Body[:1] },
		"the last one": func(f []api.Fun) { f[0].Body[2].E[2].N++ },
	} {
		changed := sample()
		change(changed)
		if Same(sample(), changed) || Same(changed, sample()) {
			t.Errorf("%s: told as alike", name)
		}
		again := sample()
		change(again)
		if !Same(changed, again) {
			t.Errorf("%s: told as other than itself", name)
		}
	}
}

// P2.2: Same of lists of functions; of what no program is; of nil and empty lists.
func TestSameLists(t *testing.T) {
	f := sample()
	hollow := []api.Fun{{Body: body(api.Stmt{E: expr(), F: expr(), A: body(), B: body()})}, {Body: body()}}
	bare := []api.Fun{{Body: body(api.Stmt{})}, {}}
	for _, c := range []struct {
		name string
		a, b []api.Fun
		want bool
	}{
		{"itself", f, f, true},
		{"one like it", f, sample(), true},
		{"fewer", f, f[:1], false},
		{"turned", f, []api.Fun{f[1], f[0]}, false},
		{"nil and empty", nil, []api.Fun{}, true},
		{"nil and nil", nil, nil, true},
		{"nil and one", nil, make([]api.Fun, 1), false},
		{"empty lists and nil ones", hollow, bare, true},
		{"too many", make([]api.Fun, 9), make([]api.Fun, 9), true},
		{"too many, and one more", make([]api.Fun, 9), make([]api.Fun, 10), false},
		{"out of range", withParams(-9), withParams(-9), true},
		{"out of range, two", withParams(-9), withParams(-8), false},
		{"very deep", []api.Fun{{Body: nest(100000, pause)}}, []api.Fun{{Body: nest(100000, pause)}}, true},
		{"very deep, two", []api.Fun{{Body: nest(100000, pause)}}, []api.Fun{{Body: nest(100000, say)}}, false},
		{"very deep, one deeper", []api.Fun{{Body: nest(100000, pause)}}, []api.Fun{{Body: nest(100001, pause)}}, false},
	} {
		if got := Same(c.a, c.b); got != c.want {
			t.Errorf("%s: %v, want %v", c.name, got, c.want)
		}
		if got := Same(c.b, c.a); got != c.want {
			t.Errorf("%s, turned: %v, want %v", c.name, got, c.want)
		}
	}
}

// roomy: a copy of l with something in the spare room behind it.
func roomy[T any](l []T, mark T) []T {
	return append(slices.Clone(l), mark, mark)[:len(l)]
}

// P2: lists that are handed in, and the spare room behind them, are only read.
func TestReadOnly(t *testing.T) {
	laid := func() []api.Fun {
		f := roomy(sample(), api.Fun{Params: 77})
		f[0].Body = roomy(f[0].Body, api.Stmt{Kind: 77})
		s := &f[0].Body[1]
		s.E, s.A, s.B = roomy(s.E, tok(77, 77)), roomy(s.A, api.Stmt{Kind: 78}), roomy(s.B, api.Stmt{Kind: 79})
		return f
	}
	f, g, before := laid(), laid(), laid()
	e := roomy(expr(plus, one, v0), tok(77, 77))
	if Check(f) != api.OK || Expr(e, f, 2) != api.OK || !Same(f, g) {
		t.Fatal("the sample is none")
	}
	whole := func(f []api.Fun) []any {
		b := f[0].Body
		s := b[1]
		return []any{f[:cap(f)], b[:cap(b)], s.E[:cap(s.E)], s.A[:cap(s.A)], s.B[:cap(s.B)]}
	}
	if !reflect.DeepEqual(whole(f), whole(before)) || !reflect.DeepEqual(whole(g), whole(before)) {
		t.Error("a program was changed")
	}
	if !slices.Equal(e[:5], expr(plus, one, v0, tok(77, 77), tok(77, 77))) {
		t.Error("an expression was changed")
	}
}
