// Package cell: values and cells; see doc/01-cell.md.
package cell

import (
	"slices"

	"wanderer/api"
)

// Check: what is wrong with a value, where there are so many cells.
func Check(v api.Value, cells int) api.Errno {
	switch v.Kind {
	case api.Nil:
		if v.N != 0 {
			return api.ErrForm
		}
	case api.Int:
		if v.N < -api.MaxValue || v.N > api.MaxValue {
			return api.ErrRange
		}
	case api.Ref:
		if v.N < 0 || v.N >= cells {
			return api.ErrWho
		}
	default:
		return api.ErrForm
	}
	return api.OK
}

// checkRow: Check's error of the first value that has one.
func checkRow(row []api.Value, cells int) api.Errno {
	for _, v := range row {
		if e := Check(v, cells); e != api.OK {
			return e
		}
	}
	return api.OK
}

// CheckAll: what is wrong with cells, whose fields may be any of them.
func CheckAll(l [][]api.Value) api.Errno {
	if len(l) > api.MaxCells {
		return api.ErrMany
	}
	for _, fields := range l {
		if len(fields) < 1 || len(fields) > api.MaxFields {
			return api.ErrMany
		}
		if e := checkRow(fields, len(l)); e != api.OK {
			return e
		}
	}
	return api.OK
}

// Same: are cells alike, well-formed or not?
func Same(a, b [][]api.Value) bool {
	if len(a) != len(b) {
		return false
	}
	for k := range a {
		if !slices.Equal(a[k], b[k]) {
			return false
		}
	}
	return true
}

// checkReach: what is wrong with what Reach is given.
func checkReach(l [][]api.Value, from []api.Value) api.Errno {
	if e := CheckAll(l); e != api.OK {
		return e
	}
	if len(from) > api.MaxFrames*api.MaxRegs {
		return api.ErrMany
	}
	return checkRow(from, len(l))
}

// Reach: the cells that the values of from lead to, the nearest first.
func Reach(l [][]api.Value, from []api.Value) ([]int, api.Errno) {
	if e := checkReach(l, from); e != api.OK {
		return nil, e
	}
	var reached []int
	met := map[int]struct{}{}
	meet := func(row []api.Value) {
		for _, v := range row {
			if v.Kind != api.Ref {
				continue
			}
			if _, there := met[v.N]; there {
				continue
			}
			met[v.N] = struct{}{}
			reached = append(reached, v.N)
		}
	}
	meet(from)
	// reached grows on the way: a range over it would stop at the cells of from.
	for k := 0; k < len(reached); k++ {
		meet(l[reached[k]])
	}
	return reached, api.OK
}
