package words

import (
	"math/rand/v2"
	"reflect"
	"slices"
	"strconv"
	"strings"
	"testing"

	"wanderer/api"
	"wanderer/source"
)

func num(n int) api.Tok   { return api.Tok{Kind: api.Num, N: n} }
func local(n int) api.Tok { return api.Tok{Kind: api.Local, N: n} }
func op(n int) api.Tok    { return api.Tok{Kind: api.Op, N: n} }
func get(n int) api.Tok   { return api.Tok{Kind: api.Get, N: n} }
func made(n int) api.Tok  { return api.Tok{Kind: api.New, N: n} }
func call(n int) api.Tok  { return api.Tok{Kind: api.Call, N: n} }

func expr(e ...api.Tok) []api.Tok     { return e }
func body(l ...api.Stmt) []api.Stmt   { return l }
func say(e ...api.Tok) api.Stmt       { return api.Stmt{Kind: api.Say, E: e} }
func funs(l ...api.Fun) []api.Fun     { return l }
func alone(l ...api.Stmt) []api.Fun   { return funs(api.Fun{Body: l}) }
func put(e, f []api.Tok) api.Stmt     { return api.Stmt{Kind: api.Put, E: e, F: f} }
func empty(params int) api.Fun        { return api.Fun{Params: params, Locals: params} }
func again(n int, word string) string { return strings.Repeat(word+" ", n) }

var pause = api.Stmt{Kind: api.Pause}

// mustBe: Print says text of f, and Parse f of text.
func mustBe(t *testing.T, name string, f []api.Fun, text string) {
	t.Helper()
	if got, err := Print(f); got != text || err != api.OK {
		t.Errorf("%s: Print: %q, %d, want %q", name, got, err, text)
	}
	if got, err := Parse(text); !source.Same(got, f) || err != api.OK {
		t.Errorf("%s: Parse of %q: %+v, %d, want %+v", name, text, got, err, f)
	}
}

// P3.1, P3.2: each kind of statement, with parts and without.
func TestStatements(t *testing.T) {
	two := expr(op(api.Plus), num(1), num(2))
	while := api.Stmt{Kind: api.While, E: expr(num(1)), A: body(pause)}
	for _, c := range []struct {
		text string
		l    []api.Stmt
	}{
		{"", nil},
		{"", body()},
		{"set 0 5 ", body(api.Stmt{Kind: api.Set, E: expr(num(5))})},
		{"set 1 + 1 2 ", body(api.Stmt{Kind: api.Set, N: 1, E: two})},
		{"put 0 1 2 ", body(put(expr(num(1)), expr(num(2))))},
		{"put 3 + 1 2 v0 ", body(api.Stmt{Kind: api.Put, N: 3, E: two, F: expr(local(0))})},
		{"put 0 v0 + 1 2 ", body(put(expr(local(0)), two))},
		{"say 7 ", body(say(num(7)))},
		{"pause ", body(pause)},
		{"pause ", body(api.Stmt{Kind: api.Pause, E: expr(), F: expr(), A: body(), B: body()})},
		{"go v1 ", body(api.Stmt{Kind: api.Go, E: expr(local(1))})},
		{"if 1 { } { } ", body(api.Stmt{Kind: api.If, E: expr(num(1))})},
		{"if 1 { pause } { } ", body(api.Stmt{Kind: api.If, E: expr(num(1)), A: body(pause)})},
		{"if 1 { } { pause } ", body(api.Stmt{Kind: api.If, E: expr(num(1)), B: body(pause)})},
		{"if + 1 2 { say 1 pause } { while 1 { pause } say 2 } pause ", body(api.Stmt{Kind: api.If, E: two,
			A: body(say(num(1)), pause), B: body(while, say(num(2)))}, pause)},
		{"while 1 { } ", body(api.Stmt{Kind: api.While, E: expr(num(1))})},
		{"while 1 { } ", body(api.Stmt{Kind: api.While, E: expr(num(1)), A: body(), B: body()})},
		{"while + 1 2 { while 1 { pause } } while 1 { pause } ", body(api.Stmt{Kind: api.While, E: two, A: body(while)}, while)},
		{"return 0 ", body(api.Stmt{Kind: api.Return, E: expr(num(0))})},
		{"return 0 say 1 ", body(api.Stmt{Kind: api.Return, E: expr(num(0))}, say(num(1)))},
	} {
		mustBe(t, c.text, funs(api.Fun{Locals: 2, Body: c.l}), "fun 0 2 { "+c.text+"}")
	}
}

// P3.1, P3.2: each kind of token, at its limits; functions 1 to 3 have as many parameters.
func TestTokens(t *testing.T) {
	for _, c := range []struct {
		text string
		e    []api.Tok
	}{
		{"0", expr(num(0))},
		{"-1", expr(num(-1))},
		{"1000000000", expr(num(api.MaxValue))},
		{"-1000000000", expr(num(-api.MaxValue))},
		{"v0", expr(local(0))},
		{"v5", expr(local(api.MaxLocals - 1))},
		{"+ 1 2", expr(op(api.Plus), num(1), num(2))},
		{"- 1 -2", expr(op(api.Minus), num(1), num(-2))},
		{"* v1 2", expr(op(api.Times), local(1), num(2))},
		{"< 1 v2", expr(op(api.Less), num(1), local(2))},
		{"= 1 new2", expr(op(api.Same), num(1), made(2))},
		{"+ - 1 2 * 3 4", expr(op(api.Plus), op(api.Minus), num(1), num(2), op(api.Times), num(3), num(4))},
		{".0 v0", expr(get(0), local(0))},
		{".3 .2 new1", expr(get(3), get(2), made(1))},
		{"new4", expr(made(api.MaxFields))},
		{"f0", expr(call(0))},
		{"f1 f0", expr(call(1), call(0))},
		{"f2 f1 1 .0 v0", expr(call(2), call(1), num(1), get(0), local(0))},
		{"f3 1 + 2 3 f1 4", expr(call(3), num(1), op(api.Plus), num(2), num(3), call(1), num(4))},
	} {
		f := funs(api.Fun{Locals: 6, Body: body(say(c.e...))}, empty(1), empty(2), empty(3))
		mustBe(t, c.text, f, "fun 0 6 { say "+c.text+" } fun 1 1 { } fun 2 2 { } fun 3 3 { }")
	}
}

// P3.1, P3.2: what a call asks for is told by the function's head, ahead of it in the text or behind.
func TestLaterFunctions(t *testing.T) {
	one := expr(num(1))
	set := func(e ...api.Tok) api.Stmt { return api.Stmt{Kind: api.Set, E: e} }
	for _, c := range []struct {
		text string
		f    []api.Fun
	}{
		{"fun 0 0 { put 0 f1 f1 } fun 0 0 { }", funs(alone(put(expr(call(1)), expr(call(1))))[0], empty(0))},
		{"fun 0 0 { put 0 f1 f1 1 1 } fun 1 1 { }", funs(alone(put(expr(call(1), call(1), num(1)), one))[0], empty(1))},
		{"fun 0 0 { put 0 1 f1 f1 1 } fun 1 1 { }", funs(alone(put(one, expr(call(1), call(1), num(1))))[0], empty(1))},
		{"fun 0 0 { put 0 f1 1 1 1 } fun 2 2 { }", funs(alone(put(expr(call(1), num(1), num(1)), one))[0], empty(2))},
		{"fun 0 0 { put 0 f1 1 1 1 1 } fun 3 3 { }", funs(alone(put(expr(call(1), num(1), num(1), num(1)), one))[0], empty(3))},
		{"fun 0 0 { put 0 f2 f1 1 f1 } fun 0 0 { } fun 2 2 { }",
			funs(alone(put(expr(call(2), call(1), num(1)), expr(call(1))))[0], empty(0), empty(2))},
		{"fun 0 1 { set 0 f0 } fun 2 4 { set 0 f3 v3 } fun 1 1 { set 0 f1 v0 f2 1 } fun 1 6 { }",
			funs(api.Fun{Locals: 1, Body: body(set(call(0)))},
				api.Fun{Params: 2, Locals: 4, Body: body(set(call(3), local(3)))},
				api.Fun{Params: 1, Locals: 1, Body: body(set(call(1), local(0), call(2), num(1)))},
				api.Fun{Params: 1, Locals: 6})},
	} {
		mustBe(t, c.text, c.f, c.text)
	}
}

// P3.1: Check's error, the first of several, and no text.
func TestPrintErrors(t *testing.T) {
	for _, c := range []struct {
		name string
		f    []api.Fun
		want api.Errno
	}{
		{"nil", nil, api.ErrMany},
		{"empty", funs(), api.ErrMany},
		{"too many functions", make([]api.Fun, api.MaxFuns+1), api.ErrMany},
		{"parameters of the first", funs(empty(1)), api.ErrRange},
		{"fewer variables than parameters", funs(empty(0), api.Fun{Params: 2, Locals: 1}), api.ErrRange},
		{"less than no parameters", funs(empty(0), empty(-1)), api.ErrRange},
		{"too many statements", alone(slices.Repeat(body(pause), api.MaxNodes+1)...), api.ErrMany},
		{"no kind", alone(api.Stmt{}), api.ErrForm},
		{"kind 9", alone(api.Stmt{Kind: 9}), api.ErrForm},
		{"kind -1", alone(api.Stmt{Kind: -1}), api.ErrForm},
		{"pause with an E", alone(api.Stmt{Kind: api.Pause, E: expr(num(1))}), api.ErrForm},
		{"say with an F", alone(api.Stmt{Kind: api.Say, E: expr(num(1)), F: expr(num(1))}), api.ErrForm},
		{"say with an N", alone(api.Stmt{Kind: api.Say, N: 1, E: expr(num(1))}), api.ErrForm},
		{"say with an A", alone(api.Stmt{Kind: api.Say, E: expr(num(1)), A: body(pause)}), api.ErrForm},
		{"while with a B", alone(api.Stmt{Kind: api.While, E: expr(num(1)), B: body(pause)}), api.ErrForm},
		{"no variable 0", alone(api.Stmt{Kind: api.Set, E: expr(num(1))}), api.ErrRange},
		{"no expression", alone(say()), api.ErrForm},
		{"no token", alone(say(api.Tok{})), api.ErrForm},
		{"token of kind 7", alone(say(api.Tok{Kind: 7})), api.ErrForm},
		{"operation 0", alone(say(op(0), num(1), num(1))), api.ErrRange},
		{"operation 6", alone(say(op(6), num(1), num(1))), api.ErrRange},
		{"operation -1", alone(say(op(-1), num(1), num(1))), api.ErrRange},
		{"no function 1", alone(say(call(1))), api.ErrWho},
		{"two errors", alone(say(call(1)), say()), api.ErrWho},
		{"two errors, turned", alone(say(), say(call(1))), api.ErrForm},
		{"two functions' errors", funs(alone(say(num(api.MaxValue + 1)))[0], alone(say())[0]), api.ErrRange},
	} {
		if got, err := Print(c.f); got != "" || err != c.want || err != source.Check(c.f) {
			t.Errorf("%s: %q, %d, want \"\", %d", c.name, got, err, c.want)
		}
	}
}

// refused: Parse answers ErrText, and no program.
func refused(t *testing.T, text string) {
	t.Helper()
	if f, err := Parse(text); err != api.ErrText || f != nil {
		t.Errorf("%.200q: %+v, %d, want no program, ErrText", text, f, err)
	}
}

// P3.2: texts that are written otherwise than Print writes.
func TestWrongTexts(t *testing.T) {
	for _, text := range []string{
		"", " ", "x", "fun", "fun ", "fun 0", "fun 0 0", "fun 0 0 {", "fun 0 0 }", "fun 0 0 { } }", "fun 0 0 { { } }",
		"fun 0 0 { } x", "x fun 0 0 { }", "} fun 0 0 { }", "0 0 { }", "{ }", "say 1", "fun 0 0 0 { }", "fun 0 { }", "fun { }",
		"fun 0 0 { } fun", "fun 0 0 { } fun 0", "fun 0 0 { } 0 0 { }", "fun 0 0 { fun 0 0 { } }", "fun 0 0 { } fun fun 0 0 { }",
		"fun 0 0 ( )", "fun 0 0 { )", "fun 0 0 x }", "Fun 0 0 { }", "FUN 0 0 { }", "fn 0 0 { }",
		// Blanks.
		" fun 0 0 { }", "fun 0 0 { } ", "fun  0 0 { }", "fun 0 0  { }", "fun 0 0 {  }", "fun 0 0 {}", "fun 0 0{ }", "fun00{}",
		"fun 0 0 { }\n", "fun 0 0 { }\r\n", "\ufefffun 0 0 { }", "fun\t0 0 { }", "fun 0 0\n{ }", "fun 0 0 {\u00a0}", "fun 0 0 { }\x00",
		"fun 0 0 { say  1 }", "fun 0 0 { say 1  }", "fun 0 0 { say 1 } fun", "fun 0 0 { } fun 0 0 { } ", "fun 0 0 { }  fun 0 0 { }",
		// Words too many or too few.
		"fun 0 0 { say }", "fun 0 0 { say 1", "fun 0 0 { say 1 2 }", "fun 0 0 { 1 }", "fun 0 0 { pause 1 }", "fun 0 0 { say say 1 }",
		"fun 0 1 { set 1 }", "fun 0 1 { set 0 }", "fun 0 1 { set v0 1 }", "fun 0 1 { set }", "fun 0 1 { set 0 1 2 }", "fun 0 1 { v0 1 }",
		"fun 0 1 { put 0 v0 }", "fun 0 1 { put v0 1 }", "fun 0 1 { put 0 v0 1 1 }", "fun 0 1 { put 0 }", "fun 0 1 { put }",
		"fun 0 0 { go }", "fun 0 0 { return }", "fun 0 0 { go 1 1 }", "fun 0 0 { return 1 1 }",
		"fun 0 0 { if 1 { } }", "fun 0 0 { if 1 }", "fun 0 0 { if { } { } }", "fun 0 0 { if 1 { } { } { } }", "fun 0 0 { if 1 { } else { } }",
		"fun 0 0 { if 1 { } { }", "fun 0 0 { if 1 { } {", "fun 0 0 { if 1 { }", "fun 0 0 { if 1 {", "fun 0 0 { if 1", "fun 0 0 { if",
		"fun 0 0 { while 1 { }", "fun 0 0 { while 1 }", "fun 0 0 { while { } }", "fun 0 0 { while 1 { } { } }", "fun 0 0 { while 1 }  }",
		"fun 0 0 { while 1 { say 1 } fun 0 0 { }", "fun 0 0 { say 1 fun 0 0 { } }", "fun 0 0 { say fun 0 0 { }",
		// Tokens.
		"fun 0 0 { say + }", "fun 0 0 { say + 1 }", "fun 0 0 { say + 1 2 3 }", "fun 0 0 { say 1 + 2 }", "fun 0 0 { say 1 2 + }",
		"fun 0 0 { say / 1 2 }", "fun 0 0 { say > 1 2 }", "fun 0 0 { say == 1 2 }", "fun 0 0 { say +1 2 }", "fun 0 0 { say x }",
		"fun 0 1 { say v }", "fun 0 1 { say v 0 }", "fun 0 1 { say V0 }", "fun 0 1 { say vv0 }", "fun 0 1 { say 0v }", "fun 0 1 { say v0v0 }",
		"fun 0 1 { say v00 }", "fun 0 1 { say v+0 }", "fun 0 1 { say v-0 }", "fun 0 1 { say v-1 }", "fun 0 1 { say v0x }",
		"fun 0 1 { say . v0 }", "fun 0 1 { say .0 }", "fun 0 1 { say .00 v0 }", "fun 0 1 { say .+0 v0 }", "fun 0 1 { say .-1 v0 }",
		"fun 0 0 { say new }", "fun 0 0 { say new 1 }", "fun 0 0 { say new01 }", "fun 0 0 { say new+1 }", "fun 0 0 { say new-1 }",
		"fun 0 0 { say ne1 }", "fun 0 0 { say f }", "fun 0 0 { say f 0 }", "fun 0 0 { say f00 }", "fun 0 0 { say f-0 }", "fun 0 0 { say f-1 }",
		// Numbers.
		"fun 0 0 { say 01 }", "fun 0 0 { say +1 }", "fun 0 0 { say -0 }", "fun 0 0 { say -01 }", "fun 0 0 { say 1_0 }", "fun 0 0 { say 0x1 }",
		"fun 0 0 { say 1.0 }", "fun 0 0 { say 1e3 }", "fun 0 0 { say --1 }", "fun 0 0 { say \u0661 }", "fun 0 0 { say 1\x00 }",
		"fun 00 0 { }", "fun 0 00 { }", "fun -0 0 { }", "fun +0 0 { }", "fun 0 +1 { }", "fun 0 01 { }", "fun x 0 { }", "fun 0 x { }",
		"fun 0 1 { set 00 1 }", "fun 0 1 { set +0 1 }", "fun 0 1 { set x 1 }", "fun 0 1 { put 01 v0 1 }", "fun 0 1 { put -0 v0 1 }",
	} {
		refused(t, text)
	}
}

// P3.2: texts that are written as Print writes, of what is no program.
func TestWrongPrograms(t *testing.T) {
	for _, text := range []string{
		"fun 1 1 { }", "fun 0 -1 { }", "fun -1 0 { }", "fun 0 7 { }", "fun 0 0 { } fun 4 4 { }", "fun 0 0 { } fun 2 1 { }",
		"fun 0 0 { } fun -1 -1 { }", "fun 0 9223372036854775807 { }", "fun 0 9223372036854775808 { }", "fun 0 99999999999999999999 { }",
		"fun 0 0 { say f1 f1 1 } fun 9223372036854775807 0 { }", "fun 0 0 { say f1 f1 1 } fun -9223372036854775808 0 { }",
		"fun 0 0 { set 0 1 }", "fun 0 1 { set 1 1 }", "fun 0 1 { set -1 1 }", "fun 0 1 { put 4 v0 1 }", "fun 0 1 { put -1 v0 1 }",
		"fun 0 0 { say v0 }", "fun 0 1 { say v1 }", "fun 0 1 { say .4 v0 }", "fun 0 0 { say new0 }", "fun 0 0 { say new5 }",
		"fun 0 0 { say f1 }", "fun 0 0 { say f1 1 }", "fun 0 0 { say f0 1 }", "fun 0 0 { say f9223372036854775807 }",
		"fun 0 0 { say f1 } fun 1 1 { }", "fun 0 0 { say f1 1 } fun 0 0 { }", "fun 0 0 { say f1 1 1 1 } fun 2 2 { }",
		"fun 0 0 { put 0 f1 1 } fun 1 1 { }", "fun 0 0 { put 0 f1 1 1 1 } fun 1 1 { }",
		"fun 0 0 { say 1000000001 }", "fun 0 0 { say -1000000001 }", "fun 0 0 { say 9223372036854775808 }", "fun 0 0 { say 18446744073709551617 }",
	} {
		refused(t, text)
	}
}

// deep: n statements of one word in each other, between first and last; of n = 1 there is the innermost alone.
func deep(n int, first, last string) string {
	return strings.Repeat(first, n-1) + "pause " + strings.Repeat(last, n-1)
}

// P3.2: as much of a thing as a program may have, and one more.
func TestLimits(t *testing.T) {
	for _, c := range []struct {
		name string
		max  int
		text func(n int) string
	}{
		{"functions", api.MaxFuns, func(n int) string { return strings.TrimSpace(again(n, "fun 0 0 { }")) }},
		{"parameters", api.MaxParams, func(n int) string { return "fun 0 0 { } fun " + strconv.Itoa(n) + " 6 { }" }},
		{"variables", api.MaxLocals, func(n int) string { return "fun 0 " + strconv.Itoa(n) + " { }" }},
		{"statements", api.MaxNodes, func(n int) string { return "fun 0 0 { " + again(n, "pause") + "}" }},
		{"statements of the second", api.MaxNodes, func(n int) string { return "fun 0 0 { pause } fun 0 0 { " + again(n, "pause") + "}" }},
		{"statements in statements", api.MaxNodes, func(n int) string {
			return "fun 0 0 { if 1 { pause } { " + again(n-2, "pause") + "} }"
		}},
		{"depth of A", api.MaxDepth, func(n int) string { return "fun 0 0 { " + deep(n, "if 1 { ", "} { } ") + "}" }},
		{"depth of B", api.MaxDepth, func(n int) string { return "fun 0 0 { " + deep(n, "if 1 { } { ", "} ") + "}" }},
		{"depth of While", api.MaxDepth, func(n int) string { return "fun 0 0 { " + deep(n, "while 1 { ", "} ") + "}" }},
		{"tokens", api.MaxToks, func(n int) string { return "fun 0 0 { say " + again(n-1, ".0") + "0 }" }},
		{"tokens of F", api.MaxToks, func(n int) string { return "fun 0 0 { put 0 1 " + again(n-1, ".0") + "0 }" }},
		{"numbers", api.MaxValue, func(n int) string { return "fun 0 0 { say " + strconv.Itoa(n) + " }" }},
	} {
		text := c.text(c.max)
		f, err := Parse(text)
		if got, errPrint := Print(f); err != api.OK || errPrint != api.OK || got != text {
			t.Errorf("%s: %q: %d, %d, %q", c.name, text, err, errPrint, got)
		}
		refused(t, c.text(c.max+1))
	}
}

// longest: the longest text of a program: no statement has more words than a Put, and no expression longer ones.
func longest() string {
	least := "-1000000000"
	three := func(a string) string { return "f1 " + a + " " + least + " " + least }
	e := "f2 " + least + " " + least
	for range 7 {
		e = three(e)
	}
	b := "{ " + again(api.MaxNodes, "put 0 "+e+" "+e) + "}"
	return "fun 0 6 " + b + " fun 3 6 " + b + " fun 2 6 " + b + " fun 0 6 " + b
}

// P3.2: ErrMany of a text of more bytes than may be, whatever else is wrong with it; of one of just as many, what else there is.
func TestTextLength(t *testing.T) {
	text := longest()
	f, err := Parse(text)
	if got, errPrint := Print(f); err != api.OK || errPrint != api.OK || got != text {
		t.Errorf("the longest program, of %d bytes: %d, %d", len(text), err, errPrint)
	}
	refused(t, strings.Replace(text, "put", "pot", 1))
	for _, word := range []string{
		"x", " ", "fun ", "fun 0 0 { } ", "fun 0 0 { say 1 ", "if ", "if 1 { ", "if 1  ", "if 1 { } { ", "while 1 { ", "say f0 ", "+ ", ".0 ",
		"put 0 f1 fun 3 3 { ", "pause ", "} ", "{ ", "1", "-", "v", "\x00", "\xff", "\u2028", text + " ",
	} {
		for _, begin := range []string{"", "fun 0 0 { ", "fun 0 0 { } ", "fun 0 0 { say "} {
			long := begin + strings.Repeat(word, api.MaxText/len(word)+1)
			refused(t, long[:api.MaxText])
			if f, err := Parse(long[:api.MaxText] + "x"); err != api.ErrMany || f != nil {
				t.Errorf("%q and many %.20q: %+v, %d, want no program, ErrMany", begin, word, f, err)
			}
			refused(t, long[:api.MaxText-2]+" }")
		}
	}
	if f, err := Parse("fun 0 0 { }" + strings.Repeat(" ", 10*api.MaxText)); err != api.ErrMany || f != nil {
		t.Errorf("a program, and very many blanks: %+v, %d", f, err)
	}
}

// phrase: words, and what they tell of.
type phrase struct {
	text string
	e    []api.Tok
	l    []api.Stmt
}

// grammar: all expressions and lists of statements of up to so many words, of these alone.
type grammar struct {
	exprs, stmts, lists [][]phrase
}

// build: tokens, by how many expressions they ask for; words that begin statements.
func build(most int, toks [3][]phrase, kinds ...string) *grammar {
	g := &grammar{exprs: make([][]phrase, most+1), stmts: make([][]phrase, most+1), lists: make([][]phrase, most+1)}
	for n := 1; n <= most; n++ {
		for asked, l := range toks {
			for _, head := range l {
				for _, tail := range g.several(asked, n-1) {
					g.exprs[n] = append(g.exprs[n], phrase{text: head.text + " " + tail.text, e: slices.Concat(head.e, tail.e)})
				}
			}
		}
	}
	g.lists[0] = []phrase{{}}
	for n := 1; n <= most; n++ {
		for _, kind := range kinds {
			g.addStmts(n, kind)
		}
		for k := 1; k <= n; k++ {
			for _, first := range g.stmts[k] {
				for _, rest := range g.lists[n-k] {
					g.lists[n] = append(g.lists[n], phrase{text: first.text + rest.text, l: slices.Concat(first.l, rest.l)})
				}
			}
		}
	}
	return g
}

// several: rows of so many expressions, of n words in all.
func (g *grammar) several(many, n int) []phrase {
	if many == 0 && n == 0 {
		return []phrase{{}}
	}
	var out []phrase
	for k := 1; many > 0 && k <= n; k++ {
		for _, first := range g.exprs[k] {
			for _, rest := range g.several(many-1, n-k) {
				out = append(out, phrase{text: first.text + rest.text, e: slices.Concat(first.e, rest.e)})
			}
		}
	}
	return out
}

// addStmts: the statements of n words that begin with kind.
func (g *grammar) addStmts(n int, kind string) {
	add := func(text string, s api.Stmt) { g.stmts[n] = append(g.stmts[n], phrase{text: text, l: body(s)}) }
	switch kind {
	case "pause":
		if n == 1 {
			add("pause ", pause)
		}
	case "say":
		for _, e := range g.exprs[n-1] {
			add("say "+e.text, say(e.e...))
		}
	case "put":
		for k := 1; k < n-2; k++ {
			for _, e := range g.exprs[k] {
				for _, f := range g.exprs[n-2-k] {
					add("put 0 "+e.text+f.text, put(e.e, f.e))
				}
			}
		}
	case "while":
		for k := 1; k <= n-3; k++ {
			for _, e := range g.exprs[k] {
				for _, a := range g.lists[n-3-k] {
					add("while "+e.text+"{ "+a.text+"} ", api.Stmt{Kind: api.While, E: e.e, A: a.l})
				}
			}
		}
	case "if":
		for k := 1; k <= n-5; k++ {
			for m := 0; m <= n-5-k; m++ {
				g.addIfs(k, m, n-5-k-m, add)
			}
		}
	}
}

// addIfs: those whose parts have so many words.
func (g *grammar) addIfs(k, m, n int, add func(text string, s api.Stmt)) {
	for _, e := range g.exprs[k] {
		for _, a := range g.lists[m] {
			for _, b := range g.lists[n] {
				add("if "+e.text+"{ "+a.text+"} { "+b.text+"} ", api.Stmt{Kind: api.If, E: e.e, A: a.l, B: b.l})
			}
		}
	}
}

// eachText: calls do with each text of n of these words, a blank behind each.
func eachText(n int, words []string, do func(text string)) {
	if n == 0 {
		do("")
		return
	}
	eachText(n-1, words, func(text string) {
		for _, w := range words {
			do(text + w + " ")
		}
	})
}

// P3.2: of all short rows of some words those of statements are read, as these, and no others.
func TestAllShort(t *testing.T) {
	leaf := func(text string, e api.Tok) phrase { return phrase{text: text, e: expr(e)} }
	for _, c := range []struct {
		most  int
		toks  [3][]phrase
		kinds []string
		words string
	}{
		{7, [3][]phrase{{leaf("0", num(0))}}, []string{"pause", "if", "while"}, "pause if while { } 0"},
		{6, [3][]phrase{{leaf("0", num(0)), leaf("f0", call(0))}, {leaf("f1", call(1))}, {leaf("f2", call(2)), leaf("-", op(api.Minus))}},
			[]string{"say", "put"}, "say put 0 f0 f1 f2 -"},
		{5, [3][]phrase{{leaf("0", num(0)), leaf("v0", local(0)), leaf("new1", made(1))}, {leaf(".0", get(0))}, {leaf("<", op(api.Less))}},
			[]string{"say", "while"}, "say while { } 0 v0 new1 .0 <"},
	} {
		g := build(c.most, c.toks, c.kinds...)
		for n := range c.most + 1 {
			want := map[string][]api.Stmt{}
			for _, p := range g.lists[n] {
				want[p.text] = p.l
			}
			if n > 2 && len(want) == 0 {
				t.Errorf("%q: none of %d words", c.words, n)
			}
			eachText(n, strings.Fields(c.words), func(text string) {
				whole := "fun 0 1 { " + text + "} fun 1 1 { } fun 2 2 { }"
				l, right := want[text]
				if !right {
					refused(t, whole)
					return
				}
				mustBe(t, text, funs(api.Fun{Locals: 1, Body: l}, empty(1), empty(2)), whole)
			})
		}
	}
}

// maker: makes programs, others from other seeds.
type maker struct {
	*rand.Rand
	f     []api.Fun
	nodes int
}

// program: one that Check lets pass, by how it is made.
func (m *maker) program() []api.Fun {
	m.f = make([]api.Fun, 1+m.IntN(api.MaxFuns))
	for k := range m.f {
		if k > 0 {
			m.f[k].Params = m.IntN(api.MaxParams + 1)
		}
		m.f[k].Locals = m.f[k].Params + m.IntN(api.MaxLocals-m.f[k].Params+1)
	}
	for k := range m.f {
		m.nodes = m.IntN(api.MaxNodes + 1)
		m.f[k].Body = m.stmts(m.f[k].Locals, api.MaxDepth)
	}
	return m.f
}

// stmts: some statements, not deeper than that.
func (m *maker) stmts(locals, depth int) []api.Stmt {
	var l []api.Stmt
	for depth > 0 && m.nodes > 0 && m.IntN(6) > 0 {
		m.nodes--
		s := api.Stmt{Kind: 1 + m.IntN(8)}
		if s.Kind == api.Set && locals == 0 {
			s.Kind = api.Go
		}
		switch s.Kind {
		case api.Set:
			s.N = m.IntN(locals)
		case api.Put:
			s.N, s.F = m.IntN(api.MaxFields), m.expr(locals)
		case api.If:
			s.A, s.B = m.stmts(locals, depth-1), m.stmts(locals, depth-1)
		case api.While:
			s.A = m.stmts(locals, depth-1)
		}
		if s.Kind != api.Pause {
			s.E = m.expr(locals)
		}
		l = append(l, s)
	}
	return l
}

// expr: an expression; where it may grow too long, numbers end it.
func (m *maker) expr(locals int) []api.Tok {
	var e []api.Tok
	for asked := 1; asked > 0; asked-- {
		kind := 1 + m.IntN(6)
		if kind == api.Local && locals == 0 || len(e)+asked+api.MaxParams > api.MaxToks {
			kind = api.Num
		}
		switch kind {
		case api.Num:
			e = append(e, num(m.IntN(2*api.MaxValue+1)-api.MaxValue))
		case api.Local:
			e = append(e, local(m.IntN(locals)))
		case api.Op:
			e = append(e, op(1+m.IntN(api.Same)))
			asked += 2
		case api.Get:
			e = append(e, get(m.IntN(api.MaxFields)))
			asked++
		case api.New:
			e = append(e, made(1+m.IntN(api.MaxFields)))
		case api.Call:
			e = append(e, call(m.IntN(len(m.f))))
			asked += m.f[e[len(e)-1].N].Params
		}
	}
	return e
}

// P3.1, P3.2: Parse of Print is the program, of many programs; of a text with some words changed it is ErrText, or what Print says so.
func TestManyPrograms(t *testing.T) {
	m := &maker{Rand: rand.New(rand.NewPCG(3, 1))}
	for range 3000 {
		f := m.program()
		text, err := Print(f)
		if err != api.OK {
			t.Fatalf("%+v: %d", f, err)
		}
		if got, err := Parse(text); err != api.OK || !source.Same(got, f) {
			t.Fatalf("%q: %d, %+v, want %+v", text, err, got, f)
		}
		for range 10 {
			sound(t, m.changed(text))
		}
	}
}

// changed: a text with a word left out, put in, or two turned.
func (m *maker) changed(text string) string {
	words := strings.Split(text, " ")
	i, j := m.IntN(len(words)), m.IntN(len(words))
	switch m.IntN(4) {
	case 0:
		words = slices.Delete(words, i, i+1)
	case 1:
		words = slices.Insert(words, i, words[j])
	case 2:
		words[i] = words[j]
	case 3:
		words[i], words[j] = words[j], words[i]
	}
	return strings.Join(words, " ")
}

// sound: Parse answers a program of which Print says just that text, or an error alone.
func sound(t *testing.T, text string) {
	t.Helper()
	f, err := Parse(text)
	if err != api.OK {
		want := api.ErrText
		if len(text) > api.MaxText {
			want = api.ErrMany
		}
		if err != want || f != nil {
			t.Errorf("%.200q: %+v, %d, want no program, %d", text, f, err, want)
		}
		return
	}
	if got, err := Print(f); err != api.OK || got != text {
		t.Errorf("%.200q: read as what is written %.200q, %d", text, got, err)
	}
}

const sample = "fun 0 2 { set 1 new2 put 1 v1 -5 if < .1 v1 0 { say f1 v0 v1 } { pause } while = v0 0 { go 10 } } fun 2 3 { return * v0 v2 }"

// P3.2: a byte left out, put in, or changed: ErrText, or another program.
func TestChangedBytes(t *testing.T) {
	if _, err := Parse(sample); err != api.OK {
		t.Fatal("the sample is none")
	}
	for k := range len(sample) {
		sound(t, sample[:k])
		sound(t, sample[:k]+sample[k+1:])
		for b := range 256 {
			sound(t, sample[:k]+string([]byte{byte(b)})+sample[k:])
			sound(t, sample[:k]+string([]byte{byte(b)})+sample[k+1:])
		}
		if k > 0 {
			refused(t, sample[:k]+"  "+sample[k:])
		}
	}
}

func FuzzParse(f *testing.F) {
	for _, text := range []string{sample, "", "fun 0 0 { }", "fun 0 0 { put 0 f1 1 f1 2 } fun 1 1 { }", "fun 0 0 { if 1 { if 1 {"} {
		f.Add(text)
	}
	f.Fuzz(sound)
}

// roomy: a copy of l with something in the spare room behind it.
func roomy[T any](l []T, mark T) []T {
	return append(slices.Clone(l), mark, mark)[:len(l)]
}

// P2: Print only reads lists, and the spare room behind them.
func TestReadOnly(t *testing.T) {
	laid := func() []api.Fun {
		f, _ := Parse(sample)
		f = roomy(f, api.Fun{Params: 77})
		f[0].Body = roomy(f[0].Body, api.Stmt{Kind: 77})
		for k, s := range f[0].Body {
			mark := api.Tok{Kind: 77}
			s.E, s.F, s.A, s.B = roomy(s.E, mark), roomy(s.F, mark), roomy(s.A, pause), roomy(s.B, pause)
			f[0].Body[k] = s
		}
		return f
	}
	whole := func(f []api.Fun) []any {
		l := []any{f[:cap(f)], f[0].Body[:cap(f[0].Body)]}
		for _, s := range f[0].Body {
			l = append(l, s.E[:cap(s.E)], s.F[:cap(s.F)], s.A[:cap(s.A)], s.B[:cap(s.B)])
		}
		return l
	}
	f := laid()
	if text, err := Print(f); text != sample || err != api.OK {
		t.Fatalf("%q, %d", text, err)
	}
	if !reflect.DeepEqual(whole(f), whole(laid())) {
		t.Error("the program was changed")
	}
}

// lists: pointers to all lists of statements in l, and of tokens.
func lists(l *[]api.Stmt) (stmts []*[]api.Stmt, toks []*[]api.Tok) {
	stmts = append(stmts, l)
	for k := range *l {
		s := &(*l)[k]
		toks = append(toks, &s.E, &s.F)
		for _, inner := range [2]*[]api.Stmt{&s.A, &s.B} {
			more, moreToks := lists(inner)
			stmts, toks = append(stmts, more...), append(toks, moreToks...)
		}
	}
	return stmts, toks
}

// P2: no two lists of an answer share memory, not even behind their ends.
func TestNewMemory(t *testing.T) {
	f, _ := Parse(sample)
	var stmts []*[]api.Stmt
	var toks []*[]api.Tok
	for k := range f {
		more, moreToks := lists(&f[k].Body)
		stmts, toks = append(stmts, more...), append(toks, moreToks...)
	}
	for k, l := range stmts {
		for j := range (*l)[:cap(*l)] {
			(*l)[:cap(*l)][j].N = k
		}
	}
	for k, l := range toks {
		for j := range (*l)[:cap(*l)] {
			(*l)[:cap(*l)][j].N = k
		}
	}
	for k, l := range stmts {
		for _, s := range (*l)[:cap(*l)] {
			if s.N != k {
				t.Errorf("lists %d and %d of statements share memory", k, s.N)
			}
		}
	}
	for k, l := range toks {
		for _, e := range (*l)[:cap(*l)] {
			if e.N != k {
				t.Errorf("lists %d and %d of tokens share memory", k, e.N)
			}
		}
	}
	if second, err := Parse(sample); err != api.OK {
		t.Error("the sample is none any more")
	} else if text, _ := Print(second); text != sample {
		t.Errorf("%q: an answer was kept", text)
	}
}
