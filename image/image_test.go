package image

import (
	"math"
	"math/big"
	"math/rand/v2"
	"reflect"
	"regexp"
	"slices"
	"strconv"
	"strings"
	"testing"

	"wanderer/api"
	"wanderer/code"
	"wanderer/words"
)

func ins(op, a, b, c int, args ...int) api.Ins {
	return api.Ins{Op: op, A: a, B: b, C: c, Args: args}
}

func proc(params, regs int, l ...api.Ins) api.Proc {
	return api.Proc{Params: params, Regs: regs, Code: l}
}

func procs(l ...api.Proc) []api.Proc { return l }

var (
	ret   = ins(api.IReturn, 0, 0, 0)
	pause = ins(api.IPause, 0, 0, 0)
)

// mustBe: Print says text of p, and Parse p of text.
func mustBe(t *testing.T, p []api.Proc, text string) {
	t.Helper()
	if got, err := Print(p); got != text || err != api.OK {
		t.Errorf("Print of %+v: %q, %d, want %q", p, got, err, text)
	}
	if got, err := Parse(text); !code.Same(got, p) || err != api.OK {
		t.Errorf("Parse of %q: %+v, %d, want %+v", text, got, err, p)
	}
}

// mustFail: Parse answers an error of text, and nothing else.
func mustFail(t *testing.T, text string, want api.Errno) {
	t.Helper()
	if got, err := Parse(text); got != nil || err != want {
		t.Errorf("Parse of %q: %+v, %d, want %d", text[:min(len(text), 200)], got, err, want)
	}
}

// P5.1, P5.2: each kind of instruction, with Args and without, at its limits.
func TestInstructions(t *testing.T) {
	for _, c := range []struct {
		line string
		i    api.Ins
	}{
		{"1 0 0 0", ins(api.INum, 0, 0, 0)},
		{"1 39 7 0", ins(api.INum, 39, 7, 0)},
		{"1 2 -1 0", ins(api.INum, 2, -1, 0)},
		{"1 2 1000000000 0", ins(api.INum, 2, api.MaxValue, 0)},
		{"1 2 -1000000000 0", ins(api.INum, 2, -api.MaxValue, 0)},
		{"2 3 4 0", ins(api.IMove, 3, 4, 0)},
		{"2 3 4 0", api.Ins{Op: api.IMove, A: 3, B: 4, Args: []int{}}},
		{"3 1 2 3 1", ins(api.IOp, 1, 2, 3, api.Plus)},
		{"3 39 10 0 5", ins(api.IOp, 39, 10, 0, api.Same)},
		{"4 1 2 3", ins(api.IGet, 1, 2, 3)},
		{"5 1 4 0", ins(api.INew, 1, 4, 0)},
		{"6 1 2 3", ins(api.IPut, 1, 2, 3)},
		{"7 1 0 0", ins(api.ICall, 1, 0, 0)},
		{"7 1 1 0 9", ins(api.ICall, 1, 1, 0, 9)},
		{"7 1 2 0 0 0", ins(api.ICall, 1, 2, 0, 0, 0)},
		{"7 39 3 0 39 20 3", ins(api.ICall, 39, 3, 0, 39, 20, 3)},
		{"8 5 0 0", ins(api.IReturn, 5, 0, 0)},
		{"9 5 0 0", ins(api.ISay, 5, 0, 0)},
		{"10 0 0 0", pause},
		{"11 5 0 0", ins(api.IGo, 5, 0, 0)},
		{"12 0 2 0", ins(api.IJump, 0, 2, 0)},
		{"13 1 2 0", ins(api.IZero, 1, 2, 0)},
	} {
		p := procs(proc(0, 40, pause, c.i, ret), proc(1, 1, ret), proc(2, 2, ret), proc(3, 3, ret))
		mustBe(t, p, "0 40 3\n10 0 0 0\n"+c.line+"\n8 0 0 0\n1 1 1\n8 0 0 0\n2 2 1\n8 0 0 0\n3 3 1\n8 0 0 0\n")
	}
}

// P5.1, P5.2: programs of one procedure and of several, of one instruction and of many.
func TestPrograms(t *testing.T) {
	again := strings.Repeat
	for _, c := range []struct {
		text string
		p    []api.Proc
	}{
		{"0 1 1\n8 0 0 0\n", procs(proc(0, 1, ret))},
		{"0 40 1\n8 39 0 0\n", procs(proc(0, 40, ins(api.IReturn, 39, 0, 0)))},
		{"0 1 1\n12 0 0 0\n", procs(proc(0, 1, ins(api.IJump, 0, 0, 0)))},
		{"0 1 2\n8 0 0 0\n12 0 0 0\n", procs(proc(0, 1, ret, ins(api.IJump, 0, 0, 0)))},
		{"0 3 2\n3 1 2 0 3\n8 1 0 0\n", procs(proc(0, 3, ins(api.IOp, 1, 2, 0, 3), ins(api.IReturn, 1, 0, 0)))},
		{"0 1 1\n8 0 0 0\n3 3 1\n8 2 0 0\n", procs(proc(0, 1, ret), proc(3, 3, ins(api.IReturn, 2, 0, 0)))},
		{"0 1 1\n8 0 0 0\n0 1 1\n8 0 0 0\n0 1 1\n8 0 0 0\n0 1 1\n8 0 0 0\n",
			procs(proc(0, 1, ret), proc(0, 1, ret), proc(0, 1, ret), proc(0, 1, ret))},
		{"0 2 3\n1 0 5 0\n7 1 1 0 0\n8 1 0 0\n1 2 2\n3 1 0 0 3\n8 1 0 0\n",
			procs(proc(0, 2, ins(api.INum, 0, 5, 0), ins(api.ICall, 1, 1, 0, 0), ins(api.IReturn, 1, 0, 0)),
				proc(1, 2, ins(api.IOp, 1, 0, 0, api.Times), ins(api.IReturn, 1, 0, 0)))},
		{"0 1 11\n" + again("10 0 0 0\n", 10) + "8 0 0 0\n", procs(proc(0, 1, append(slices.Repeat([]api.Ins{pause}, 10), ret)...))},
	} {
		mustBe(t, c.p, c.text)
	}
}

// P5.1: Print answers Check's error, and no text.
func TestPrintErrors(t *testing.T) {
	for _, c := range []struct {
		name string
		p    []api.Proc
		want api.Errno
	}{
		{"nil", nil, api.ErrMany},
		{"empty", procs(), api.ErrMany},
		{"five", slices.Repeat(procs(proc(0, 1, ret)), 5), api.ErrMany},
		{"first with parameters", procs(proc(1, 1, ret)), api.ErrRange},
		{"no registers", procs(proc(0, 0, ret)), api.ErrRange},
		{"41 registers", procs(proc(0, 41, ret)), api.ErrRange},
		{"no instructions", procs(proc(0, 1)), api.ErrMany},
		{"too many instructions", procs(proc(0, 1, slices.Repeat([]api.Ins{ret}, api.MaxCode+1)...)), api.ErrMany},
		{"op 0", procs(proc(0, 1, ins(0, 0, 0, 0))), api.ErrForm},
		{"register 1", procs(proc(0, 1, ins(api.IReturn, 1, 0, 0))), api.ErrRange},
		{"procedure 1", procs(proc(0, 1, ins(api.ICall, 0, 1, 0), ret)), api.ErrWho},
		{"return with Args", procs(proc(0, 1, ins(api.IReturn, 0, 0, 0, 0))), api.ErrForm},
		{"pause at the end", procs(proc(0, 1, pause)), api.ErrForm},
		{"procedure 1, then a form", procs(proc(0, 1, ins(api.ICall, 0, 1, 0), pause)), api.ErrWho},
		{"second one", procs(proc(0, 1, ret), proc(0, 1, ins(14, 0, 0, 0))), api.ErrForm},
	} {
		if text, err := Print(c.p); text != "" || err != c.want {
			t.Errorf("%s: %q, %d, want %d", c.name, text, err, c.want)
		}
	}
}

// P5.1: Parse refuses what isn't written so; {} is where a number is that isn't as strconv.Itoa writes it.
func TestWrongTexts(t *testing.T) {
	for _, text := range []string{
		// Lines.
		"\n", "\n\n", " ", "0", "0 1 1", "0 1 1\n", "0 1 1\n8 0 0 0",
		"0 1 1\n\n", "\n0 1 1\n8 0 0 0\n", "0 1 1\n\n8 0 0 0\n", "0 1 1\n8 0 0 0\n\n", "0 1 1\n8 0 0 0\n\n0 1 1\n8 0 0 0\n",
		"0 1 2\n8 0 0 0\n", "0 1 1\n8 0 0 0\n8 0 0 0\n", "0 1 2\n8 0 0 0\n0 1 1\n8 0 0 0\n",
		"0 1 1\n8 0 0 0\n0 1 1\n", "0 1 1\n8 0 0 0\n0 1 1", "8 0 0 0\n", "0 1 1\n0 1 1\n8 0 0 0\n",
		"0 1 1 8 0 0 0\n", "0 1 1 8 0 0 0", "0 1 1\n8 0 0 0 0 1 1\n8 0 0 0 0 1",
		// Numbers of a line.
		"0 1\n8 0 0 0\n", "1\n8 0 0 0\n", "0 1 1 1\n8 0 0 0\n", "0 1 1 0\n8 0 0 0\n",
		"0 1 1\n8\n", "0 1 1\n8 0\n", "0 1 1\n8 0 0\n", "0 1 1\n10\n", "0 1 2\n10\n8 0 0 0\n",
		// Blanks.
		" 0 1 1\n8 0 0 0\n", "0 1 1 \n8 0 0 0\n", "0  1 1\n8 0 0 0\n", "0 1 1\n 8 0 0 0\n", "0 1 1\n8 0 0 0 \n", "0 1 1\n8 0  0 0\n",
		"0 1 1\n8 0 0 0\n ", "0\t1 1\n8 0 0 0\n", "0 1 1\r\n8 0 0 0\r\n", "0 1 1\n8 0 0 0\r\n", "0,1,1\n8,0,0,0\n", "0 1 1\v8 0 0 0\v",
		"0\u00a01 1\n8 0 0 0\n", "0 1 1\u20288 0 0 0\u2028", "\ufeff0 1 1\n8 0 0 0\n", "0 1 1\n8 0 0 0\n\x00", "0 1 1\x00\n8 0 0 0\n",
		// What was no program, besides.
		"fun 0 0 { }", "0 1 1\n8 0 0 x\n", "0 1 1\n8 0 0 0x\n", "a b c\n", "0 1 1\n8 0 0 0\n0 1 1\n8 0 0 0\n0 1 1\n8 0 0 0\n0 1 1\n8 0 0 0\n0 1 1\n8 0 0\n",
		"0 1 1\n99 0 0 0\nx", "9 99 1\n8 0 0\n",
	} {
		mustFail(t, text, api.ErrText)
	}
	for _, n := range []string{
		"", "-", "+", "--1", "+0", "+1", "-0", "00", "01", "-01", "007", "1_0", "0x1", "0b1", "0o1", "1e0", "1.0", "1.", "x", "-x", "1-", "\u0661", "\uff11", "\u22121", "\xff",
		"9223372036854775808", "-9223372036854775809", "18446744073709551616", "18446744073709551615", "100000000000000000000", strings.Repeat("9", 400), strings.Repeat("0", 400),
	} {
		for _, form := range []string{
			"{} 1 1\n8 0 0 0\n", "0 {} 1\n8 0 0 0\n", "0 1 {}\n8 0 0 0\n",
			"0 1 1\n{} 0 0 0\n", "0 1 1\n8 {} 0 0\n", "0 1 1\n8 0 {} 0\n", "0 1 1\n8 0 0 {}\n", "0 1 1\n8 0 0 0 {}\n", "0 1 1\n8 0 0 0 1 {} 2\n",
		} {
			mustFail(t, strings.Replace(form, "{}", n, 1), api.ErrText)
		}
	}
}

// P5.1: Parse takes any number as it is, and answers Check's error of what it makes; so it does of the number of procedures.
func TestWrongPrograms(t *testing.T) {
	most, least := strconv.Itoa(math.MaxInt), strconv.Itoa(math.MinInt)
	for _, c := range []struct {
		text string
		want api.Errno
	}{
		{"", api.ErrMany},
		{"0 1 1\n10 0 0 0\n", api.ErrForm},
		{"0 0 1\n8 0 0 0\n", api.ErrRange},
		{"0 -1 1\n8 0 0 0\n", api.ErrRange},
		{"0 41 1\n8 0 0 0\n", api.ErrRange},
		{"1 1 1\n8 0 0 0\n", api.ErrRange},
		{"-1 1 1\n8 0 0 0\n", api.ErrRange},
		{"0 1 1\n8 0 0 0\n4 40 1\n8 0 0 0\n", api.ErrRange},
		{most + " 1 1\n8 0 0 0\n", api.ErrRange},
		{least + " 1 1\n8 0 0 0\n", api.ErrRange},
		{"0 " + most + " 1\n8 0 0 0\n", api.ErrRange},
		{"0 " + least + " 1\n8 0 0 0\n", api.ErrRange},
		{"0 1 1\n" + most + " 0 0 0\n", api.ErrForm},
		{"0 1 1\n" + least + " 0 0 0\n", api.ErrForm},
		{"0 1 1\n8 " + most + " 0 0\n", api.ErrRange},
		{"0 1 1\n8 0 " + most + " 0\n", api.ErrForm},
		{"0 1 1\n8 0 0 " + least + "\n", api.ErrForm},
		{"0 1 1\n8 0 0 0 " + least + "\n", api.ErrForm},
		{"0 1 1\n8 0 0 0 0\n", api.ErrForm},
		{"0 1 2\n7 0 0 0" + strings.Repeat(" "+most, 500) + "\n8 0 0 0\n", api.ErrForm},
		{"0 1 2\n7 0 1 0\n8 0 0 0\n", api.ErrWho},
		{"0 1 2\n7 0 1 0\n8 0 0 0\n1 1 1\n8 0 0 0\n", api.ErrForm},
		{"0 1 2\n7 0 1 0 1\n8 0 0 0\n1 1 1\n8 0 0 0\n", api.ErrRange},
		{"0 1 2\n1 0 1000000001 0\n8 0 0 0\n", api.ErrRange},
		{"0 1 2\n3 0 0 0\n8 0 0 0\n", api.ErrRange},
		{"0 1 2\n3 0 0 0 6\n8 0 0 0\n", api.ErrRange},
		{"0 1 1\n12 0 1 0\n", api.ErrRange},
		{strings.Repeat("0 1 1\n8 0 0 0\n", 5), api.ErrMany},
		{strings.Repeat("9 99 1\n99 0 0 0\n", 5), api.ErrMany},
		{strings.Repeat("0 1 1\n8 0 0 0\n", api.MaxText/14), api.ErrMany},
	} {
		mustFail(t, c.text, c.want)
	}
}

// P5.1: of how many instructions there may be; more or fewer are no text, not a program that isn't right.
func TestInstructionCount(t *testing.T) {
	filled := func(n int) string {
		if n < 1 {
			return ""
		}
		return strings.Repeat("10 0 0 0\n", n-1) + "8 0 0 0\n"
	}
	for _, n := range []int{1, 2, 10, 1000, api.MaxCode - 1, api.MaxCode} {
		count := strconv.Itoa(n)
		mustBe(t, procs(proc(0, 1, append(slices.Repeat([]api.Ins{pause}, n-1), ret)...)), "0 1 "+count+"\n"+filled(n))
		mustFail(t, "0 1 "+count+"\n"+filled(n-1), api.ErrText)
		mustFail(t, "0 1 "+count+"\n"+filled(n+1), api.ErrText)
	}
	for _, n := range []int{0, -1, -api.MaxCode, api.MaxCode + 1, 3 * api.MaxCode, math.MaxInt, math.MinInt, 1 << 32, 1<<32 + 1} {
		lines := filled(min(n, 3*api.MaxCode))
		mustFail(t, "0 1 "+strconv.Itoa(n)+"\n"+lines, api.ErrText)
		mustFail(t, "0 1 1\n8 0 0 0\n0 1 "+strconv.Itoa(n)+"\n"+lines, api.ErrText)
	}
	// The error of the text is told ahead of that of the program, wherever it is.
	mustFail(t, "1 0 1\n99 0 0 0\n0 1 0\n", api.ErrText)
}

// long: a right program of which the text has so many bytes, some 60000.
func long(bytes int) []api.Proc {
	number := ins(api.INum, 0, api.MaxValue, 0)
	q := proc(0, 1, append(slices.Repeat([]api.Ins{number}, api.MaxCode-1), ret)...)
	p := procs(q, proc(0, 1, slices.Clone(q.Code)...))
	over := 2*(len("0 1 2000\n")+(api.MaxCode-1)*len("1 0 1000000000 0\n")+len("8 0 0 0\n")) - bytes
	for k := 0; over > 0; k++ {
		digits := 10 - min(over, 9)
		p[k%2].Code[k/2].B, _ = strconv.Atoi("1" + strings.Repeat("0", digits-1))
		over -= 10 - digits
	}
	return p
}

// P5.1, P5.2: a text may be as long as MaxText; Print writes longer ones of longer programs, which Parse doesn't take.
func TestTextLength(t *testing.T) {
	for _, n := range []int{api.MaxText - 1, api.MaxText} {
		text, err := Print(long(n))
		if len(text) != n || err != api.OK {
			t.Fatalf("%d bytes, %d, want %d", len(text), err, n)
		}
		mustBe(t, long(n), text)
		mustFail(t, text[:n-1], api.ErrText)
		mustFail(t, text[:n-1]+"0", api.ErrText)
	}
	for _, n := range []int{api.MaxText + 1, api.MaxText + 5000} {
		text, err := Print(long(n))
		if len(text) != n || err != api.OK {
			t.Fatalf("%d bytes, %d, want %d", len(text), err, n)
		}
		mustFail(t, text, api.ErrMany)
	}
	for _, fill := range []string{"x", " ", "\n", "0", "-"} {
		mustFail(t, strings.Repeat(fill, api.MaxText), api.ErrText)
		mustFail(t, strings.Repeat(fill, api.MaxText+1), api.ErrMany)
	}
	// Runes are of more than one byte.
	mustFail(t, strings.Repeat("\u00e9", api.MaxText/2), api.ErrText)
	mustFail(t, strings.Repeat("\u00e9", api.MaxText/2+1), api.ErrMany)
}

var rightLines = regexp.MustCompile(`\A(((0|-?[1-9][0-9]*) )*(0|-?[1-9][0-9]*)\n)*\z`)

// reckoned: what Parse answers, by a grammar, and by numbers of any length.
func reckoned(text string) ([]api.Proc, api.Errno) {
	if len(text) > api.MaxText {
		return nil, api.ErrMany
	}
	if !rightLines.MatchString(text) {
		return nil, api.ErrText
	}
	var lines [][]int
	for line := range strings.Lines(text) {
		var l []int
		for _, word := range strings.Fields(line) {
			n, _ := new(big.Int).SetString(word, 10)
			if !n.IsInt64() {
				return nil, api.ErrText
			}
			l = append(l, int(n.Int64()))
		}
		lines = append(lines, l)
	}
	var p []api.Proc
	for left := 0; len(lines) > 0; lines = lines[1:] {
		n := lines[0]
		switch {
		case left == 0 && len(n) == 3 && n[2] > 0 && n[2] <= api.MaxCode:
			p = append(p, proc(n[0], n[1]))
			left = n[2]
		case left > 0 && len(n) > 3:
			q := &p[len(p)-1]
			q.Code = append(q.Code, ins(n[0], n[1], n[2], n[3], n[4:]...))
			left--
		default:
			return nil, api.ErrText
		}
		if len(lines) == 1 && left > 0 {
			return nil, api.ErrText
		}
	}
	if err := code.Check(p); err != api.OK {
		return nil, err
	}
	return p, api.OK
}

// sound: Parse answers what is reckoned, and Print writes just that text of it.
func sound(t *testing.T, text string) api.Errno {
	t.Helper()
	p, err := Parse(text)
	want, wantErr := reckoned(text)
	if err != wantErr || !code.Same(p, want) {
		t.Fatalf("Parse of %q: %+v, %d, want %+v, %d", text, p, err, want, wantErr)
	}
	if err != api.OK {
		if p != nil {
			t.Fatalf("Parse of %q: %+v with error %d", text, p, err)
		}
		return err
	}
	if back, err := Print(p); back != text || err != api.OK {
		t.Fatalf("Print of Parse of %q: %q, %d", text, back, err)
	}
	return err
}

const sample = "0 3 5\n1 0 -12 0\n7 1 1 0 0 2\n3 2 1 0 4\n13 2 1 0\n8 1 0 0\n2 10 2\n10 0 0 0\n12 0 0 0\n"

// P5.1: one byte changed, put in, or left out, anywhere.
func TestChangedBytes(t *testing.T) {
	seen := map[api.Errno]int{}
	bytes := []string{"", "0", "1", "2", "3", "5", "9", "-", "+", " ", "\n", "\t", "\r", "x", "_", ".", "\x00", "\xff"}
	for k := range len(sample) + 1 {
		for _, b := range bytes {
			seen[sound(t, sample[:k]+b+sample[k:])]++
			if k < len(sample) {
				seen[sound(t, sample[:k]+b+sample[k+1:])]++
			}
		}
	}
	for _, err := range []api.Errno{api.OK, api.ErrText, api.ErrRange, api.ErrForm, api.ErrWho} {
		if seen[err] == 0 {
			t.Errorf("error %d was never told: %v", err, seen)
		}
	}
}

// P5.1: lines of the sample laid otherwise: left out, twice, swapped.
func TestChangedLines(t *testing.T) {
	lines := strings.SplitAfter(strings.TrimSuffix(sample, "\n"), "\n")
	lines[len(lines)-1] += "\n"
	for k := range lines {
		for m := range lines {
			l := slices.Clone(lines)
			l[k], l[m] = l[m], l[k]
			sound(t, strings.Join(l, ""))
			sound(t, strings.Join(slices.Delete(slices.Clone(l), k, k+1), ""))
			sound(t, strings.Join(slices.Insert(slices.Clone(l), k, lines[m]), ""))
		}
	}
}

// P5.1: random lines of random numbers, as they are and not.
func TestRandomLines(t *testing.T) {
	r := rand.New(rand.NewPCG(5, 1))
	numbers := []string{"0", "0", "0", "1", "1", "2", "3", "7", "8", "8", "12", "40", "-1", "1000000001", strconv.Itoa(math.MaxInt), strconv.Itoa(math.MinInt)}
	seen := map[api.Errno]int{}
	for range 200000 {
		var b strings.Builder
		for range r.IntN(3) {
			count := r.IntN(3)
			b.WriteString("0 1 " + strconv.Itoa(count) + "\n")
			for range count + r.IntN(20)/19 {
				b.WriteString([]string{"8", "8", "8", "8", "12", "1", "7"}[r.IntN(7)])
				for range 3 + r.IntN(8)/7 - r.IntN(20)/19 {
					b.WriteString(" " + numbers[r.IntN(4+r.IntN(len(numbers)-3))])
				}
				b.WriteString("\n")
			}
		}
		seen[sound(t, b.String())]++
	}
	for _, err := range []api.Errno{api.OK, api.ErrText, api.ErrMany, api.ErrRange, api.ErrForm, api.ErrWho} {
		if seen[err] == 0 {
			t.Errorf("error %d was never told: %v", err, seen)
		}
	}
}

// random: a right program; heads are drawn ahead of the instructions, which call by them.
func random(r *rand.Rand) []api.Proc {
	p := make([]api.Proc, 1+r.IntN(api.MaxFuns))
	for k := range p {
		if k > 0 {
			p[k].Params = r.IntN(api.MaxParams + 1)
		}
		least := max(1, p[k].Params)
		p[k].Regs = least + r.IntN(api.MaxRegs-least+1)
	}
	for k := range p {
		q := &p[k]
		n := 1 + r.IntN(30)
		reg := func() int { return r.IntN(q.Regs) }
		for range n - 1 {
			q.Code = append(q.Code, randomIns(r, p, n, reg))
		}
		q.Code = append(q.Code, []api.Ins{ins(api.IReturn, reg(), 0, 0), ins(api.IJump, 0, r.IntN(n), 0)}[r.IntN(2)])
	}
	return p
}

// randomIns: a right instruction of a procedure with so many.
func randomIns(r *rand.Rand, p []api.Proc, code int, reg func() int) api.Ins {
	switch op := 1 + r.IntN(api.IZero); op {
	case api.INum:
		return ins(op, reg(), r.IntN(2*api.MaxValue+1)-api.MaxValue, 0)
	case api.IMove:
		return ins(op, reg(), reg(), 0)
	case api.IOp:
		return ins(op, reg(), reg(), reg(), 1+r.IntN(api.Same))
	case api.IGet, api.IPut:
		return ins(op, reg(), reg(), r.IntN(api.MaxFields))
	case api.INew:
		return ins(op, reg(), 1+r.IntN(api.MaxFields), 0)
	case api.ICall:
		i := ins(op, reg(), r.IntN(len(p)), 0)
		for range p[i.B].Params {
			i.Args = append(i.Args, reg())
		}
		return i
	case api.IPause:
		return ins(op, 0, 0, 0)
	case api.IJump:
		return ins(op, 0, r.IntN(code), 0)
	case api.IZero:
		return ins(op, reg(), r.IntN(code), 0)
	default:
		return ins(op, reg(), 0, 0)
	}
}

// P5.2: Parse of Print is the program.
func TestBack(t *testing.T) {
	r := rand.New(rand.NewPCG(5, 2))
	back := func(p []api.Proc) {
		t.Helper()
		text, err := Print(p)
		if err != api.OK {
			t.Fatalf("Print of %+v: %d", p, err)
		}
		if got, err := Parse(text); err != api.OK || !code.Same(got, p) {
			t.Fatalf("Parse of %q: %+v, %d, want %+v", text, got, err, p)
		}
		sound(t, text)
	}
	for range 2000 {
		back(random(r))
	}
	for _, text := range []string{
		"fun 0 0 { }",
		"fun 0 1 { set 0 3 while v0 { say v0 go v0 set 0 - v0 1 } }",
		"fun 0 2 { set 0 new2 put 1 v0 f1 -5 v0 if .1 v0 { pause } { say = v0 v1 } return .0 v0 } fun 2 3 { set 2 * v0 v0 return v2 }",
	} {
		f, err := words.Parse(text)
		if err != api.OK {
			t.Fatalf("%q: %d", text, err)
		}
		p, _ := code.Compile(f)
		back(p)
	}
}

// roomy: a copy of l with something in the spare room behind it.
func roomy[T any](l []T, mark T) []T {
	return append(slices.Clone(l), mark, mark)[:len(l)]
}

// P2: Print only reads lists, and the spare room behind them.
func TestReadOnly(t *testing.T) {
	laid := func() []api.Proc {
		p, _ := Parse(sample)
		p = roomy(p, api.Proc{Params: 77})
		for k, q := range p {
			p[k].Code = roomy(q.Code, pause)
			for m, i := range q.Code {
				p[k].Code[m].Args = roomy(i.Args, 77)
			}
		}
		return p
	}
	whole := func(p []api.Proc) []any {
		l := []any{p[:cap(p)]}
		for _, q := range p {
			l = append(l, q.Code[:cap(q.Code)])
			for _, i := range q.Code {
				l = append(l, i.Args[:cap(i.Args)])
			}
		}
		return l
	}
	p := laid()
	if text, err := Print(p); text != sample || err != api.OK {
		t.Fatalf("%q, %d", text, err)
	}
	if !reflect.DeepEqual(whole(p), whole(laid())) {
		t.Error("the program was changed")
	}
}

// P2: no two lists of an answer share memory, not even behind their ends, nor do two answers.
func TestNewMemory(t *testing.T) {
	p, _ := Parse(sample)
	other, _ := Parse(sample)
	for k, q := range p {
		_ = append(q.Code, pause, pause, pause)
		for m, i := range q.Code {
			_ = append(i.Args, 77, 77, 77, 77)
			if text, _ := Print(p); text != sample {
				t.Fatalf("lists behind instruction %d of procedure %d are shared: %q", m, k, text)
			}
		}
	}
	for k, q := range p {
		p[k] = proc(3, 9)
		for m, i := range q.Code {
			for n := range i.Args {
				i.Args[n] = 77
			}
			q.Code[m] = pause
			for _, later := range q.Code[m+1:] {
				if slices.Contains(later.Args, 77) {
					t.Fatalf("Args behind instruction %d of procedure %d are shared", m, k)
				}
			}
		}
	}
	if text, _ := Print(other); text != sample {
		t.Errorf("answers share memory: %q", text)
	}
}

func FuzzParse(f *testing.F) {
	f.Add(sample)
	f.Add("")
	f.Fuzz(func(t *testing.T, text string) { sound(t, text) })
}
