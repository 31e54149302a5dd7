package cell

import (
	"math"
	"slices"
	"testing"

	"wanderer/api"
)

var none = api.Value{}

func num(n int) api.Value { return api.Value{Kind: api.Int, N: n} }

func ref(n int) api.Value { return api.Value{Kind: api.Ref, N: n} }

// rows: so many cells, each with a field that is nothing.
func rows(n int) [][]api.Value {
	l := make([][]api.Value, n)
	for k := range l {
		l[k] = []api.Value{none}
	}
	return l
}

// with: l, but of cell k these fields.
func with(l [][]api.Value, k int, fields ...api.Value) [][]api.Value {
	l = slices.Clone(l)
	l[k] = fields
	return l
}

// repeat: v so many times.
func repeat(v api.Value, n int) []api.Value { return slices.Repeat([]api.Value{v}, n) }

// P1.1: Check.
func TestCheck(t *testing.T) {
	for _, c := range []struct {
		name  string
		v     api.Value
		cells int
		want  api.Errno
	}{
		{"nothing", none, 0, api.OK},
		{"nothing, among cells", none, 5, api.OK},
		{"nothing with 1", api.Value{N: 1}, 5, api.ErrForm},
		{"nothing with -1", api.Value{N: -1}, 5, api.ErrForm},
		{"kind 3", api.Value{Kind: 3}, 5, api.ErrForm},
		{"kind -1", api.Value{Kind: -1}, 5, api.ErrForm},
		{"kind 3, far off", api.Value{Kind: 3, N: math.MaxInt}, 5, api.ErrForm},
		{"greatest kind", api.Value{Kind: math.MaxInt, N: 2}, 5, api.ErrForm},
		{"least kind", api.Value{Kind: math.MinInt}, 5, api.ErrForm},
		{"number 0", num(0), 0, api.OK},
		{"number 7, no cells", num(7), 0, api.OK},
		{"greatest number", num(api.MaxValue), 0, api.OK},
		{"one more", num(api.MaxValue + 1), 0, api.ErrRange},
		{"least number", num(-api.MaxValue), 0, api.OK},
		{"one less", num(-api.MaxValue - 1), 0, api.ErrRange},
		{"greatest int", num(math.MaxInt), 0, api.ErrRange},
		{"least int", num(math.MinInt), 0, api.ErrRange},
		{"first cell", ref(0), 3, api.OK},
		{"last cell", ref(2), 3, api.OK},
		{"behind the last", ref(3), 3, api.ErrWho},
		{"ahead of the first", ref(-1), 3, api.ErrWho},
		{"no cells", ref(0), 0, api.ErrWho},
		{"less than no cells", ref(0), -1, api.ErrWho},
		{"less than no cells, below", ref(-2), -1, api.ErrWho},
		{"least of cells", ref(math.MinInt), math.MinInt, api.ErrWho},
		{"more than MaxCells", ref(api.MaxCells), api.MaxCells + 1, api.OK},
		{"greatest of cells", ref(math.MaxInt), math.MaxInt, api.ErrWho},
		{"one below the greatest", ref(math.MaxInt - 1), math.MaxInt, api.OK},
	} {
		if got := Check(c.v, c.cells); got != c.want {
			t.Errorf("%s: %d, want %d", c.name, got, c.want)
		}
	}
}

// P1.1: CheckAll.
func TestCheckAll(t *testing.T) {
	long := repeat(none, api.MaxFields+1)
	last := api.MaxCells - 1
	for _, c := range []struct {
		name string
		l    [][]api.Value
		want api.Errno
	}{
		{"nil", nil, api.OK},
		{"empty", [][]api.Value{}, api.OK},
		{"a circle", [][]api.Value{{ref(1)}, {ref(0), num(5)}}, api.OK},
		{"of itself", [][]api.Value{{ref(0), ref(0), ref(0), ref(0)}}, api.OK},
		{"as many cells as may be", rows(api.MaxCells), api.OK},
		{"the last of as many", with(rows(api.MaxCells), 0, ref(last)), api.OK},
		{"behind the last of as many", with(rows(api.MaxCells), 0, ref(last+1)), api.ErrWho},
		{"one cell more", rows(api.MaxCells + 1), api.ErrMany},
		{"one cell more, with a wrong kind", with(rows(api.MaxCells+1), 0, api.Value{Kind: 3}), api.ErrMany},
		{"as many fields as may be", [][]api.Value{repeat(num(1), api.MaxFields)}, api.OK},
		{"one field more", [][]api.Value{long}, api.ErrMany},
		{"nil fields", [][]api.Value{nil}, api.ErrMany},
		{"no fields", [][]api.Value{{none}, {}}, api.ErrMany},
		{"too many fields ahead of a wrong one", [][]api.Value{append([]api.Value{{Kind: 3}}, long...)}, api.ErrMany},
		{"a wrong field ahead of too many", [][]api.Value{{num(api.MaxValue + 1)}, long}, api.ErrRange},
		{"no fields ahead of a wrong one", [][]api.Value{{}, {num(api.MaxValue + 1)}}, api.ErrMany},
		{"the first of two wrong fields", [][]api.Value{{none, ref(1), {Kind: 3}}}, api.ErrWho},
		{"the other way round", [][]api.Value{{none, {Kind: 3}, ref(1)}}, api.ErrForm},
		{"the first of two wrong cells", [][]api.Value{{none}, {num(-api.MaxValue - 1)}, {ref(3)}}, api.ErrRange},
		{"the last field of the last cell", [][]api.Value{{none}, {none, none, none, {N: 2}}}, api.ErrForm},
		{"a cell behind all", [][]api.Value{{ref(2)}, {none}}, api.ErrWho},
		{"a cell ahead of all", [][]api.Value{{ref(-1)}}, api.ErrWho},
	} {
		if got := CheckAll(c.l); got != c.want {
			t.Errorf("%s: %d, want %d", c.name, got, c.want)
		}
	}
}

// P1.1: Same.
func TestSame(t *testing.T) {
	l := [][]api.Value{{none, num(4)}, {ref(0)}}
	odd := append(rows(api.MaxCells+5), nil, repeat(api.Value{Kind: -7, N: math.MinInt}, 9))
	for _, c := range []struct {
		name string
		a, b [][]api.Value
		want bool
	}{
		{"nil and nil", nil, nil, true},
		{"nil and empty", nil, [][]api.Value{}, true},
		{"nil and one", nil, [][]api.Value{nil}, false},
		{"nil fields and no fields", [][]api.Value{nil}, [][]api.Value{{}}, true},
		{"no fields and one that is nothing", [][]api.Value{{}}, [][]api.Value{{none}}, false},
		{"one and itself", l, l, true},
		{"one and its like", l, [][]api.Value{{none, num(4)}, {ref(0)}}, true},
		{"one and its beginning", l, l[:1], false},
		{"one field less", l, [][]api.Value{{none}, {ref(0)}}, false},
		{"another first field", l, with(l, 0, num(0), num(4)), false},
		{"another number", l, with(l, 0, none, num(5)), false},
		{"another kind", l, with(l, 1, num(0)), false},
		{"another last cell", l, with(l, 1, ref(1)), false},
		{"the other order", l, [][]api.Value{l[1], l[0]}, false},
		{"fields cut elsewhere", [][]api.Value{{none}, {none, none}}, [][]api.Value{{none, none}, {none}}, false},
		{"malformed and its like", odd, slices.Clone(odd), true},
		{"malformed and another", odd, with(odd, len(odd)-1, repeat(api.Value{Kind: -7, N: math.MinInt + 1}, 9)...), false},
		{"nothing with 1, and nothing", [][]api.Value{{{N: 1}}}, [][]api.Value{{none}}, false},
	} {
		if got := Same(c.a, c.b); got != c.want {
			t.Errorf("%s: %v, want %v", c.name, got, c.want)
		}
		if got := Same(c.b, c.a); got != c.want {
			t.Errorf("%s, turned round: %v, want %v", c.name, got, c.want)
		}
	}
}

// P1.2: the order of what Reach answers.
func TestReachOrder(t *testing.T) {
	chain := rows(api.MaxCells)
	var down, up []int
	for k := range chain {
		if k > 0 {
			chain[k][0] = ref(k - 1)
		}
		up = append(up, k)
		down = append([]int{k}, down...)
	}
	tree := [][]api.Value{{ref(2), ref(1)}, {ref(5), ref(0)}, {ref(4), ref(3)}, {none}, {num(6), ref(5)}, {none}, {ref(6)}}
	for _, c := range []struct {
		name string
		l    [][]api.Value
		from []api.Value
		want []int
	}{
		{"nil of nil", nil, nil, nil},
		{"empty of empty", [][]api.Value{}, []api.Value{}, nil},
		{"nothing and numbers, no cells", nil, []api.Value{none, num(0), num(api.MaxValue)}, nil},
		{"from nil", tree, nil, nil},
		{"from nothing and a number", tree, []api.Value{none, num(2)}, nil},
		{"a number in a field leads nowhere", [][]api.Value{{num(1)}, {none}}, []api.Value{ref(0)}, []int{0}},
		{"one and what it leads to", tree, []api.Value{ref(0)}, []int{0, 2, 1, 4, 3, 5}},
		{"in the order of from", tree, []api.Value{ref(5), none, ref(3), num(6), ref(2)}, []int{5, 3, 2, 4}},
		{"each once", tree, []api.Value{ref(3), ref(5), ref(3), ref(3)}, []int{3, 5}},
		{"from ahead of fields", tree, []api.Value{ref(0), ref(5)}, []int{0, 5, 2, 1, 4, 3}},
		{"of itself", tree, []api.Value{ref(6)}, []int{6}},
		{"a chain of all", chain, []api.Value{ref(api.MaxCells - 1)}, down},
		{"its end first", chain, []api.Value{ref(0), ref(api.MaxCells - 1)}, append([]int{0}, down[:api.MaxCells-1]...)},
		{"its end", chain, []api.Value{ref(0)}, []int{0}},
		{"all of from", chain, refs(up), up},
		{"as many values as may be", chain, append(repeat(none, api.MaxFrames*api.MaxRegs-1), ref(1)), []int{1, 0}},
	} {
		got, e := Reach(c.l, c.from)
		if e != api.OK || !slices.Equal(got, c.want) {
			t.Errorf("%s: %v, %d, want %v", c.name, got, e, c.want)
		}
	}
}

func refs(l []int) []api.Value {
	var out []api.Value
	for _, n := range l {
		out = append(out, ref(n))
	}
	return out
}

// P1.2: which error Reach answers, and that there is no list with it.
func TestReachErrors(t *testing.T) {
	many := api.MaxFrames*api.MaxRegs + 1
	wrong := [][]api.Value{{num(api.MaxValue + 1)}}
	for _, c := range []struct {
		name string
		l    [][]api.Value
		from []api.Value
		want api.Errno
	}{
		{"one cell too many", rows(api.MaxCells + 1), []api.Value{ref(0)}, api.ErrMany},
		{"a cell without fields", [][]api.Value{{none}, nil}, []api.Value{ref(0)}, api.ErrMany},
		{"a wrong field that nothing leads to", append(rows(1), wrong...), []api.Value{ref(0)}, api.ErrRange},
		{"a wrong field, from nil", wrong, nil, api.ErrRange},
		{"a wrong field ahead of too many values", wrong, repeat(none, many), api.ErrRange},
		{"a wrong field ahead of a wrong value", wrong, []api.Value{ref(1)}, api.ErrRange},
		{"one value too many", rows(1), repeat(none, many), api.ErrMany},
		{"too many values ahead of a wrong one", rows(1), repeat(api.Value{Kind: 3}, many), api.ErrMany},
		{"as many as may be, the last one wrong", rows(1), append(repeat(none, many-2), ref(1)), api.ErrWho},
		{"no such cell", rows(3), []api.Value{ref(0), ref(3)}, api.ErrWho},
		{"no cells", nil, []api.Value{ref(0)}, api.ErrWho},
		{"a cell ahead of all", rows(3), []api.Value{ref(-1)}, api.ErrWho},
		{"no such kind", rows(3), []api.Value{{Kind: 3}}, api.ErrForm},
		{"nothing with 1", rows(3), []api.Value{{N: 1}}, api.ErrForm},
		{"a number too great", rows(3), []api.Value{num(api.MaxValue + 1)}, api.ErrRange},
		{"the first of wrong values", rows(3), []api.Value{none, num(-api.MaxValue - 1), ref(3), {Kind: 3}}, api.ErrRange},
		{"the first of wrong values, turned round", rows(3), []api.Value{{Kind: 3}, ref(3), num(-api.MaxValue - 1)}, api.ErrForm},
	} {
		got, e := Reach(c.l, c.from)
		if e != c.want || got != nil {
			t.Errorf("%s: %v, %d, want %d", c.name, got, e, c.want)
		}
	}
}

// small: all rows of one or two fields over nothing, the number 1 and three cells.
func small() [][]api.Value {
	kinds := []api.Value{none, num(1), ref(0), ref(1), ref(2)}
	var out [][]api.Value
	for _, a := range kinds {
		out = append(out, []api.Value{a})
		for _, b := range kinds {
			out = append(out, []api.Value{a, b})
		}
	}
	return out
}

// slowly: the cells of from, then again and again the first field that isn't there yet.
func slowly(l [][]api.Value, from []api.Value) []int {
	var out []int
	next := func(row []api.Value) bool {
		for _, v := range row {
			if v.Kind == api.Ref && !slices.Contains(out, v.N) {
				out = append(out, v.N)
				return true
			}
		}
		return false
	}
	for next(from) {
	}
	for again := true; again; {
		again = false
		for _, n := range out {
			if next(l[n]) {
				again = true
				break
			}
		}
	}
	return out
}

// closed: is each cell of a field of what is reached, and of from, reached too?
func closed(l [][]api.Value, from []api.Value, reached []int) bool {
	look := slices.Clone(from)
	for _, n := range reached {
		look = append(look, l[n]...)
	}
	for _, v := range look {
		if v.Kind == api.Ref && !slices.Contains(reached, v.N) {
			return false
		}
	}
	return true
}

// P1.2, P1.3: all that three small cells can be.
func TestReachOfAllSmallCells(t *testing.T) {
	fields := small()
	starts := [][]api.Value{nil, {none, num(1)}, {ref(0)}, {ref(1)}, {ref(2)}, {ref(2), ref(0)}}
	for _, a := range fields {
		for _, b := range fields {
			for _, c := range fields {
				l := [][]api.Value{a, b, c}
				for _, from := range starts {
					got, e := Reach(l, from)
					if want := slowly(l, from); e != api.OK || !slices.Equal(got, want) {
						t.Fatalf("%v from %v: %v, %d, want %v", l, from, got, e, want)
					}
					if !closed(l, from, got) {
						t.Fatalf("%v from %v: %v leads out", l, from, got)
					}
				}
			}
		}
	}
}

// P1.3: as many cells as may be, full of fields, in patterns of many strides.
func TestUnreachedIsInNoField(t *testing.T) {
	for stride := range api.MaxCells {
		for step := range api.MaxCells {
			l := make([][]api.Value, api.MaxCells)
			for k := range l {
				l[k] = []api.Value{num(k), ref((k + stride) % api.MaxCells), none, ref((k*step + stride) % api.MaxCells)}
			}
			for start := range api.MaxCells {
				from := []api.Value{num(0), ref(start)}
				got, e := Reach(l, from)
				if e != api.OK || !closed(l, from, got) {
					t.Fatalf("stride %d, step %d, from %d: %v, %d leads out", stride, step, start, got, e)
				}
				if want := slowly(l, from); !slices.Equal(got, want) {
					t.Fatalf("stride %d, step %d, from %d: %v, want %v", stride, step, start, got, want)
				}
			}
		}
	}
}

// roomy: l in memory with spare room behind each list, and all of that memory.
func roomy(l [][]api.Value) (given, whole [][]api.Value) {
	for _, fields := range l {
		row := append(slices.Clone(fields), num(77), num(78))
		whole = append(whole, row)
		given = append(given, row[:len(fields)])
	}
	given = append(given, repeat(num(79), 2))
	return given[:len(l)], whole
}

// P1, P2: what is handed in is only read, and not kept; what is answered is new memory.
func TestHandedInIsOnlyRead(t *testing.T) {
	l := [][]api.Value{{ref(1), ref(2)}, {ref(0)}, {num(3), none}}
	given, whole := roomy(l)
	_, wholeThen := roomy(l)
	start := append(repeat(ref(0), 1), num(80), num(81))
	from := start[:1]
	first, e := Reach(given, from)
	if e != api.OK || !slices.Equal(first, []int{0, 1, 2}) {
		t.Fatalf("%v, %d", first, e)
	}
	second, _ := Reach(given, from)
	first = append(first, 9)
	first[0] = 9
	if !slices.Equal(second, []int{0, 1, 2}) {
		t.Errorf("two answers share memory: %v", second)
	}
	CheckAll(given)
	Same(given, given)
	if !Same(whole, wholeThen) || !Same(given, l) {
		t.Errorf("cells were changed: %v", whole)
	}
	if !slices.Equal(given[:4][3], repeat(num(79), 2)) {
		t.Errorf("the room behind the cells was changed: %v", given[:4][3])
	}
	if !slices.Equal(start, []api.Value{ref(0), num(80), num(81)}) {
		t.Errorf("from was changed: %v", start)
	}
	given[0][0], from[0] = none, none
	if !slices.Equal(second, []int{0, 1, 2}) {
		t.Errorf("the answer hangs on what was handed in: %v", second)
	}
}
