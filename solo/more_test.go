package solo

import (
	"math/rand/v2"
	"slices"
	"strconv"
	"strings"
	"testing"

	"wanderer/api"
	"wanderer/vm"
	"wanderer/words"
)

// stepped: what Run is to answer, reckoned step by step: where a slice ends is seen from outside.
func stepped(p []api.Proc, fuel, turns int) (all []int, s api.State) {
	s, _ = vm.New(p)
	for range turns {
		if s.Status == api.Going {
			s.Status, s.Where = api.Ready, 0
		}
		says := 0
		for steps := 0; steps < fuel && s.Status == api.Ready; steps++ {
			last := s.Frames[len(s.Frames)-1]
			op := p[last.Proc].Code[last.At].Op
			if op == api.ISay && says == api.MaxSays {
				break
			}
			next, said, _, _ := vm.Run(p, s, 1)
			all, s, says = append(all, said...), next, says+len(said)
			if op == api.IPause {
				break
			}
		}
	}
	return all, s
}

// author: random programs, as texts: numbers in v0 to v2, mostly, cells in v3; function 1 makes a number of two numbers, 2 a cell of a cell.
type author struct{ *rand.Rand }

func (a author) one(l ...string) string { return l[a.IntN(len(l))] }

func (a author) number(depth int) string {
	if depth == 0 || a.IntN(3) == 0 {
		return a.one("v0", "v1", "v2", "0", "1", "2", strconv.Itoa(a.IntN(200)-100))
	}
	switch a.IntN(8) {
	case 0:
		return ".0 " + a.cell(depth-1)
	case 1:
		return "f1 " + a.number(depth-1) + " " + a.number(depth-1)
	}
	return a.one("+ ", "+ ", "- ", "* ", "< ", "= ") + a.number(depth-1) + " " + a.number(depth-1)
}

func (a author) cell(depth int) string {
	if depth == 0 || a.IntN(2) == 0 {
		return "v3"
	}
	return a.one(".1 ", "f2 ") + a.cell(depth-1)
}

func (a author) block(depth int) string {
	var l []string
	for range 1 + a.IntN(4) {
		l = append(l, a.stmt(depth))
	}
	return strings.Join(l, " ")
}

func (a author) stmt(depth int) string {
	n := a.IntN(12)
	switch {
	case n < 3 && depth > 0:
		v := strconv.Itoa(a.IntN(3))
		return a.one(
			"if "+a.number(1)+" { "+a.block(depth-1)+" } { "+a.block(depth-1)+" }",
			"while "+a.number(1)+" { "+a.block(depth-1)+" }",
			"set "+v+" "+strconv.Itoa(1+a.IntN(60))+" while v"+v+" { "+a.block(depth-1)+" set "+v+" - v"+v+" 1 }")
	case n < 4:
		return "pause"
	case n < 6:
		return "go " + a.number(1)
	case n < 10:
		return "say " + a.number(2)
	case n == 10:
		return "set " + strconv.Itoa(a.IntN(3)) + " " + a.number(1)
	}
	return a.one("put 0 "+a.cell(1)+" "+a.number(1), "put 1 "+a.cell(1)+" f2 v3", "set 3 "+a.cell(2), "set 3 v0")
}

// program: one that isn't too long.
func (a author) program() string {
	for {
		text := a.draft()
		if _, err := words.Parse(text); err == api.OK {
			return text
		}
	}
}

func (a author) draft() string {
	head := "set 0 1 set 1 -1 set 2 3 set 3 new2 put 0 v3 4 put 1 v3 v3 "
	return "fun 0 4 { " + head + a.block(2) + a.one("", "", " say v3") + " } " +
		"fun 2 4 { set 2 2 set 3 f2 0 " + a.one("", "pause ", "go v0 ") + a.one("", "say v1 ") + "return " + a.one("v0", "+ v0 v1", "- v1 2", "= v0 v1") + " } " +
		"fun 1 2 { set 1 new2 put 0 v1 5 put 1 v1 " + a.one("v0", "v1") + " return v1 }"
}

// chance: fuel and turns, small ones and great ones.
func (a author) chance() (fuel, turns int) {
	fuel, turns = 1+a.IntN(12), a.IntN(12)
	switch a.IntN(4) {
	case 0:
		fuel = 1 + a.IntN(300)
	case 1:
		fuel = api.MaxFuel - a.IntN(2)
	}
	if a.IntN(3) == 0 {
		turns = a.IntN(api.MaxScript + 1)
	}
	return fuel, turns
}

// P7.1: random programs, held against what is reckoned step by step: all that was said, and the whole state.
func TestRandom(t *testing.T) {
	a := author{rand.New(rand.NewPCG(7, 1))}
	seen := map[int]int{}
	full, silent := 0, 0
	for range 2500 {
		text := a.program()
		p := written(t, text)
		fuel, turns := a.chance()
		wantSaid, want := stepped(p, fuel, turns)
		said, s := done(t, p, fuel, turns)
		if !slices.Equal(said, wantSaid) || !vm.Same(s, want) {
			t.Fatalf("fuel %d, %d turns: %v, %+v, want %v, %+v: %s", fuel, turns, said, s, wantSaid, want, text)
		}
		seen[s.Status]++
		if len(said) > api.MaxSays {
			full++
		}
		if len(said) == 0 {
			silent++
		}
	}
	for _, status := range []int{api.Ready, api.Ended, api.Failed, api.Going} {
		if seen[status] < 100 {
			t.Errorf("status %d came %d times", status, seen[status])
		}
	}
	if full < 50 || silent < 50 || silent > 1500 {
		t.Errorf("%d said more than a slice may, %d nothing", full, silent)
	}
}

// begins: is a the beginning of b?
func begins(a, b []int) bool {
	return len(a) <= len(b) && slices.Equal(a, b[:len(a)])
}

// grows: with more turns the beginning stays, and what is over stays as it is.
func grows(t *testing.T, p []api.Proc, fuel int) (all []int) {
	t.Helper()
	all, s := done(t, p, fuel, 0)
	for turns := 1; turns <= api.MaxScript; turns++ {
		more, next := done(t, p, fuel, turns)
		if !begins(all, more) || len(more) > len(all)+min(fuel, api.MaxSays) {
			t.Fatalf("fuel %d: %d turns: %v behind %v", fuel, turns, more, all)
		}
		if s.Status == api.Ended || s.Status == api.Failed {
			if len(more) != len(all) || !vm.Same(s, next) {
				t.Fatalf("fuel %d: %d turns: it was over, and is %v, %+v", fuel, turns, more, next)
			}
		}
		all, s = more, next
	}
	return all
}

// programs: some of which the ends are known, and that say more or less in a slice.
func programs() map[string]string {
	return map[string]string{
		"ends":           "fun 0 1 { set 0 30 while v0 { say v0 go v0 pause set 0 - v0 1 } }",
		"fails":          "fun 0 2 { set 0 9 while v0 { say v0 set 0 - v0 1 pause } say v1 say 5 }",
		"says much":      "fun 0 1 { set 0 100 while v0 { say v0 say - 0 v0 say * v0 v0 set 0 - v0 1 } }",
		"never ends":     "fun 0 1 { set 0 1 while 1 { say v0 set 0 + v0 1 if < v0 7 { go v0 } { pause } } }",
		"says for ever":  "fun 0 1 { set 0 0 while 1 { say v0 set 0 + v0 1 } }",
		"is silent":      "fun 0 0 { while 1 { pause } }",
		"drops cells":    "fun 0 3 { set 0 0 set 1 new2 while 1 { set 2 new4 put 1 v2 v1 put 0 v2 v0 say .0 v2 set 1 v2 put 1 v1 0 set 0 + v0 1 } }",
		"calls and goes": "fun 0 1 { set 0 0 while < v0 20 { say f1 v0 3 set 0 + v0 1 } } fun 2 2 { if v1 { go v1 say v1 return + f1 v0 - v1 1 1 } { } return v0 }",
	}
}

// P7.2: with more turns the beginning stays: turn by turn, from none to the most.
func TestMoreTurns(t *testing.T) {
	for name, text := range programs() {
		p := written(t, text)
		for _, fuel := range []int{1, 2, 3, 17, 100, api.MaxFuel} {
			all := grows(t, p, fuel)
			if name == "is silent" != (len(all) == 0) {
				t.Errorf("%s: fuel %d: %v", name, fuel, all)
			}
		}
	}
	a := author{rand.New(rand.NewPCG(7, 2))}
	for range 40 {
		text := a.program()
		fuel, _ := a.chance()
		grows(t, written(t, text), fuel)
	}
}

// P7.2, P6.5: with other fuel, and other turns, the one says a beginning of what the other does; who is over in both said the same.
func TestOtherFuel(t *testing.T) {
	a := author{rand.New(rand.NewPCG(7, 3))}
	texts := []string{}
	for _, text := range programs() {
		texts = append(texts, text)
	}
	slices.Sort(texts)
	for range 200 {
		texts = append(texts, a.program())
	}
	over := func(s api.State) bool { return s.Status == api.Ended || s.Status == api.Failed }
	both := 0
	for _, text := range texts {
		p := written(t, text)
		longest, last := done(t, p, api.MaxFuel, api.MaxScript)
		for range 12 {
			fuel, turns := a.chance()
			said, s := done(t, p, fuel, turns)
			if !begins(said, longest) {
				t.Fatalf("fuel %d, %d turns: %v, and %v with the most: %s", fuel, turns, said, longest, text)
			}
			if over(s) {
				both++
				if !vm.Same(s, last) || len(said) != len(longest) {
					t.Fatalf("fuel %d, %d turns: over as %+v, %v, with the most as %+v, %v: %s", fuel, turns, s, said, last, longest, text)
				}
			}
		}
	}
	if both < 200 {
		t.Errorf("%d were over", both)
	}
}
