package place

import (
	"math"
	"reflect"
	"slices"
	"testing"

	"wanderer/api"
	"wanderer/record"
)

func co(id, epoch, offered int, image ...int) api.Co {
	return api.Co{ID: id, Epoch: epoch, Image: image, Offered: offered}
}

// has: a list of coroutines.
func has(l ...api.Co) []api.Co { return l }

// log of records.
func log(l ...api.Rec) []api.Rec { return l }

func begin(co int, image ...int) api.Rec {
	return api.Rec{Kind: api.RBegin, Co: co, Epoch: 1, Image: image}
}

func slice(co, epoch int, image ...int) api.Rec {
	return api.Rec{Kind: api.RSlice, Co: co, Epoch: epoch, Image: image}
}

func offer(co, epoch, place int) api.Rec {
	return api.Rec{Kind: api.ROffer, Co: co, Epoch: epoch, Place: place}
}

func take(co, epoch int, image ...int) api.Rec {
	return api.Rec{Kind: api.RTake, Co: co, Epoch: epoch, Image: image}
}

func gone(co, epoch int) api.Rec { return api.Rec{Kind: api.RGone, Co: co, Epoch: epoch} }

// each: a record of each kind, of a coroutine at this epoch.
func each(co, epoch int) []api.Rec {
	first := begin(co, 9)
	first.Epoch = epoch
	return log(first, slice(co, epoch, 9), offer(co, epoch, 1), take(co, epoch, 9), gone(co, epoch))
}

// row of so many ones.
func ones(n int) []int { return slices.Repeat([]int{1}, n) }

// alike: are all fields alike, lists without anything too?
func alike(a, b []api.Co) bool {
	plain := func(l []api.Co) []api.Co {
		l = append([]api.Co{}, l...)
		for k := range l {
			l[k].Image = append([]int{}, l[k].Image...)
		}
		return l
	}
	return reflect.DeepEqual(plain(a), plain(b))
}

// is: an answer without an error.
func is(t *testing.T, what string, got []api.Co, err api.Errno, want []api.Co) {
	t.Helper()
	if err != api.OK || !alike(got, want) || !Same(got, want) {
		t.Errorf("%s: %v, %d, want %v", what, got, err, want)
	}
	if err := Check(got); err != api.OK {
		t.Errorf("%s: Check of %v: %d", what, got, err)
	}
}

// fails: an answer with an error, and nothing else.
func fails(t *testing.T, what string, got []api.Co, err, want api.Errno) {
	t.Helper()
	if err != want || got != nil {
		t.Errorf("%s: %v, %d, want %d", what, got, err, want)
	}
}

// goes: with this record the one list becomes the other.
func goes(t *testing.T, l []api.Co, r api.Rec, want []api.Co) {
	t.Helper()
	got, err := Next(l, r)
	is(t, "Next", got, err, want)
	if t.Failed() {
		t.Fatalf("of %v with %+v", l, r)
	}
}

// refused: this record can't come where a place has this.
func refused(t *testing.T, l []api.Co, r api.Rec, want api.Errno) {
	t.Helper()
	got, err := Next(l, r)
	fails(t, "Next", got, err, want)
	if t.Failed() {
		t.Fatalf("of %v with %+v", l, r)
	}
}

// wrong: a list that Check refuses, and Next with whatever record.
func wrong(t *testing.T, l []api.Co, want api.Errno) {
	t.Helper()
	if err := Check(l); err != want {
		t.Fatalf("Check of %.300v: %d, want %d", l, err, want)
	}
	for _, r := range append(each(0, 1), api.Rec{}, begin(1, 1), begin(3, 1), slice(0, 1), take(2, 100, 1), offer(9, 9, 9), slice(0, 1, ones(api.MaxImage+1)...)) {
		refused(t, l, r, want)
	}
}

// right: a list that Check allows; each of it may run, or go, if it is offered.
func right(t *testing.T, l []api.Co) {
	t.Helper()
	if err := Check(l); err != api.OK {
		t.Fatalf("Check of %.300v: %d", l, err)
	}
	for k, c := range l {
		if c.Offered == -1 {
			ran := slices.Clone(l)
			ran[k].Image = []int{5}
			goes(t, l, slice(c.ID, c.Epoch, 5), ran)
		} else {
			goes(t, l, gone(c.ID, c.Epoch), slices.Concat(l[:k], l[k+1:]))
		}
	}
}

// P11.2: each kind of record, one after the other.
func TestByHand(t *testing.T) {
	var l []api.Co
	var records []api.Rec
	for _, c := range []struct {
		r    api.Rec
		want []api.Co
	}{
		{begin(1, 5), has(co(1, 1, -1, 5))},
		{slice(1, 1, 6, 7), has(co(1, 1, -1, 6, 7))},
		{slice(1, 1, 8), has(co(1, 1, -1, 8))},
		{take(2, 7, 4), has(co(1, 1, -1, 8), co(2, 7, -1, 4))},
		{offer(1, 1, 2), has(co(1, 1, 2, 8), co(2, 7, -1, 4))},
		{slice(2, 7, 3), has(co(1, 1, 2, 8), co(2, 7, -1, 3))},
		{begin(0, 1), has(co(0, 1, -1, 1), co(1, 1, 2, 8), co(2, 7, -1, 3))},
		{offer(2, 7, 0), has(co(0, 1, -1, 1), co(1, 1, 2, 8), co(2, 7, 0, 3))},
		{gone(1, 1), has(co(0, 1, -1, 1), co(2, 7, 0, 3))},
		{take(1, 3, 2), has(co(0, 1, -1, 1), co(1, 3, -1, 2), co(2, 7, 0, 3))},
		{offer(0, 1, 1), has(co(0, 1, 1, 1), co(1, 3, -1, 2), co(2, 7, 0, 3))},
		{gone(0, 1), has(co(1, 3, -1, 2), co(2, 7, 0, 3))},
		{gone(2, 7), has(co(1, 3, -1, 2))},
		{offer(1, 3, 0), has(co(1, 3, 0, 2))},
		{gone(1, 3), nil},
		{take(1, 5, 2), has(co(1, 5, -1, 2))},
	} {
		goes(t, l, c.r, c.want)
		l, records = c.want, append(records, c.r)
		got, err := Replay(records)
		is(t, "Replay", got, err, c.want)
	}
}

// P11.2: what a slice said counts for nothing here.
func TestSays(t *testing.T) {
	r := slice(0, 1, 6)
	r.Says = ones(api.MaxSays)
	goes(t, has(co(0, 1, -1, 5)), r, has(co(0, 1, -1, 6)))
	r.Says = ones(api.MaxSays + 1)
	refused(t, has(co(0, 1, -1, 5)), r, api.ErrMany)
}

// P11.1: all at the edges, and past them, near and far.
func TestEdges(t *testing.T) {
	right(t, nil)
	right(t, has())
	far := []int{math.MinInt, math.MaxInt, -3, 1000}
	for _, c := range []struct {
		right, wrong []int
		of           func(n int) api.Co
	}{
		{[]int{0, 1, 2}, append(far, -1, 3), func(n int) api.Co { return co(n, 1, -1, 7) }},
		{[]int{1, 2, 99, 100}, append(far, -1, 0, 101), func(n int) api.Co { return co(1, n, -1, 7) }},
		{[]int{-1, 0, 1, 2}, append(far, -2, 3), func(n int) api.Co { return co(2, 4, n, 7) }},
	} {
		for _, n := range c.right {
			right(t, has(c.of(n)))
		}
		for _, n := range c.wrong {
			wrong(t, has(c.of(n)), api.ErrRange)
		}
	}
	for _, n := range []int{1, 2, api.MaxImage - 1, api.MaxImage} {
		right(t, has(co(1, 1, -1, ones(n)...)))
		right(t, has(co(1, 1, 0, slices.Repeat([]int{math.MinInt}, n)...)))
	}
	for _, n := range []int{0, api.MaxImage + 1, 2 * api.MaxImage} {
		wrong(t, has(co(1, 1, -1, ones(n)...)), api.ErrMany)
	}
	wrong(t, has(api.Co{ID: 1, Epoch: 1}), api.ErrMany)
}

// P11.1: as many coroutines as there may be, and one more, whatever they are.
func TestMany(t *testing.T) {
	full := has(co(0, 1, -1, 1), co(1, 100, 2, 2), co(2, 7, 0, ones(api.MaxImage)...))
	right(t, full)
	for k := range full {
		right(t, full[:k])
		right(t, full[k:])
		right(t, slices.Concat(full[:k], full[k+1:]))
	}
	wrong(t, append(slices.Clone(full), co(3, 1, -1, 1)), api.ErrMany)
	wrong(t, append(slices.Clone(full), full[2]), api.ErrMany)
	wrong(t, slices.Repeat(full, 2), api.ErrMany)
	wrong(t, make([]api.Co, api.MaxCos+1), api.ErrMany)
	wrong(t, slices.Repeat(has(co(-1, -1, -2)), 1000), api.ErrMany)
}

// P11.1: the same ID twice, and one lower than that ahead; only the one ahead counts.
func TestTwice(t *testing.T) {
	of := func(ids ...int) (l []api.Co) {
		for k, id := range ids {
			l = append(l, co(id, k+1, k-1, 5))
		}
		return l
	}
	for _, l := range [][]int{{0, 0}, {1, 1}, {2, 2}, {1, 0}, {2, 0}, {2, 1}, {0, 0, 0}, {0, 0, 1}, {0, 1, 1}, {0, 1, 0}, {0, 2, 1}, {0, 2, 2}, {1, 0, 1}, {1, 0, 2}, {1, 2, 0}, {2, 1, 0}, {2, 0, 1}} {
		wrong(t, of(l...), api.ErrTwice)
	}
	for _, l := range [][]int{{0}, {1}, {2}, {0, 1}, {0, 2}, {1, 2}, {0, 1, 2}} {
		right(t, of(l...))
	}
}

// P11.1: one by one; of two errors of one coroutine the one that is told first, of two coroutines that of the first.
func TestWhichErrorFirst(t *testing.T) {
	levels := []struct {
		want   api.Errno
		faults []func(c *api.Co)
	}{
		{api.ErrRange, []func(c *api.Co){
			func(c *api.Co) { c.ID = -1 },
			func(c *api.Co) { c.Epoch = 0 },
			func(c *api.Co) { c.Epoch = api.MaxEpoch + 1 },
			func(c *api.Co) { c.Offered = -2 },
			func(c *api.Co) { c.Offered = api.MaxPlaces },
		}},
		{api.ErrMany, []func(c *api.Co){
			func(c *api.Co) { c.Image = nil },
			func(c *api.Co) { c.Image = ones(api.MaxImage + 1) },
		}},
		{api.ErrTwice, []func(c *api.Co){func(c *api.Co) { c.ID = 0 }}},
	}
	sound := func() []api.Co { return has(co(0, 1, -1, 1), co(1, 2, 0, 1), co(2, 3, 1, 1)) }
	for k, level := range levels {
		for _, fault := range level.faults {
			l := sound()
			fault(&l[1])
			wrong(t, l, level.want)
			for _, later := range levels[k:] {
				for _, second := range later.faults {
					// The one told first is done last: some are of the same field.
					l = sound()
					second(&l[1])
					fault(&l[1])
					wrong(t, l, level.want)
				}
			}
			for _, other := range levels {
				for _, second := range other.faults {
					l = sound()
					fault(&l[1])
					second(&l[2])
					wrong(t, l, level.want)
				}
			}
		}
	}
}

// P11.1: the first one of an ID, in lists that are right, and in others.
func TestFind(t *testing.T) {
	l := has(co(2, 1, -1), co(-7, 0, 0), co(2, 1, -1, 5), co(0, 1, -1, 5), co(math.MaxInt, 1, -1), co(-7, 0, 0), co(0, 0, 0), co(math.MinInt, 0, 99))
	for _, c := range []struct{ id, want int }{{2, 0}, {-7, 1}, {0, 3}, {math.MaxInt, 4}, {math.MinInt, 7}, {1, -1}, {-1, -1}, {3, -1}, {7, -1}} {
		if got := Find(l, c.id); got != c.want {
			t.Errorf("Find of %d: %d, want %d", c.id, got, c.want)
		}
		if got := Find(nil, c.id); got != -1 {
			t.Errorf("Find of %d in none: %d", c.id, got)
		}
		if got := Find(has(), c.id); got != -1 {
			t.Errorf("Find of %d in an empty list: %d", c.id, got)
		}
	}
	full := has(co(0, 1, -1, 1), co(1, 1, -1, 1), co(2, 1, -1, 1))
	for id := range full {
		if got := Find(full, id); got != id {
			t.Errorf("Find of %d: %d", id, got)
		}
		if got := Find(slices.Concat(full[:id], full[id+1:]), id); got != -1 {
			t.Errorf("Find of %d, which is not there: %d", id, got)
		}
	}
}

// P11.1: lists that are alike, and such that differ in one field; what fields have in them counts, not whether it may be.
func TestSame(t *testing.T) {
	l := [][]api.Co{
		nil,
		has(api.Co{}),
		has(api.Co{}, api.Co{}),
		has(co(0, 1, -1, 5)),
		has(co(0, 1, -1, 5), co(1, 1, -1, 5)),
		has(co(1, 1, -1, 5), co(0, 1, -1, 5)),
		has(co(0, 1, -1, 5), co(0, 1, -1, 5)),
		has(co(-9, 1000, math.MinInt, ones(api.MaxImage+5)...)),
		slices.Repeat(has(co(3, 3, 3, 3)), 9),
	}
	for k, a := range l {
		for j, b := range l {
			b = whole(b)
			if got := Same(a, b); got != (j == k) {
				t.Errorf("%v, %v: %t", a, b, got)
			}
		}
		for at := range a {
			for _, change := range []func(c *api.Co){
				func(c *api.Co) { c.ID++ },
				func(c *api.Co) { c.Epoch-- },
				func(c *api.Co) { c.Offered++ },
				func(c *api.Co) { c.Image = append(slices.Clone(c.Image), 0) },
				func(c *api.Co) { c.Image = append([]int{0}, c.Image...) },
				func(c *api.Co) { c.Image = append(slices.Clone(c.Image[:max(len(c.Image)-1, 0)]), 9) },
			} {
				b := slices.Clone(a)
				change(&b[at])
				if Same(a, b) || Same(b, a) {
					t.Errorf("%v, %v: the same", a, b)
				}
			}
		}
	}
	if !Same(nil, has()) || !Same(has(), nil) || !Same(has(api.Co{}), has(co(0, 0, 0, ones(0)...))) {
		t.Error("nil and empty lists aren't alike")
	}
}

// P11.2: RBegin and RTake: whom there is can't come, whatever its epoch; of an RBegin the epoch is 1, of an RTake it isn't.
func TestCome(t *testing.T) {
	for _, offered := range []int{-1, 0, 2} {
		for _, epoch := range []int{1, 2, 50, api.MaxEpoch} {
			l := has(co(1, 2, offered, 5))
			again, late := take(1, epoch, 6), begin(1, 6)
			late.Epoch = epoch
			refused(t, l, again, api.ErrTwice)
			refused(t, l, late, api.ErrTwice)
			again.Co, late.Co = 2, 0
			if epoch == 1 {
				refused(t, l, again, api.ErrLate)
				goes(t, l, late, has(co(0, 1, -1, 6), co(1, 2, offered, 5)))
			} else {
				refused(t, l, late, api.ErrLate)
				goes(t, l, again, has(co(1, 2, offered, 5), co(2, epoch, -1, 6)))
			}
		}
	}
}

// P11.2: those that come are in order of ID, in whatever order they come.
func TestOrder(t *testing.T) {
	ids := []int{0, 1, 2}
	for _, order := range [][]int{{0, 1, 2}, {0, 2, 1}, {1, 0, 2}, {1, 2, 0}, {2, 0, 1}, {2, 1, 0}} {
		for taken := range 1 << len(ids) {
			var l, want []api.Co
			for _, id := range order {
				r := begin(id, 5, id)
				if taken>>id&1 == 1 {
					r = take(id, 2+id, 6, id)
				}
				next, err := Next(l, r)
				if err != api.OK {
					t.Fatalf("Next of %v with %+v: %d", l, r, err)
				}
				l = next
			}
			for _, id := range ids {
				if taken>>id&1 == 1 {
					want = append(want, co(id, 2+id, -1, 6, id))
				} else {
					want = append(want, co(id, 1, -1, 5, id))
				}
			}
			is(t, "in order", l, api.OK, want)
		}
	}
}

// P11.2: the other kinds: of whom there isn't, at another epoch, offered and not.
func TestChange(t *testing.T) {
	l := has(co(0, 2, -1, 5), co(2, 2, 1, 6))
	for _, r := range each(1, 2) {
		if r.Kind != api.RBegin && r.Kind != api.RTake {
			refused(t, nil, r, api.ErrWho)
			refused(t, l, r, api.ErrWho)
			for _, id := range []int{0, 2} {
				r.Co = id
				for _, epoch := range []int{1, 3, 99, api.MaxEpoch} {
					r.Epoch = epoch
					refused(t, l, r, api.ErrLate)
				}
			}
		}
	}
	refused(t, l, gone(0, 2), api.ErrLate)
	refused(t, l, slice(2, 2, 9), api.ErrLate)
	refused(t, l, offer(2, 2, 1), api.ErrLate)
	refused(t, l, offer(2, 2, 0), api.ErrLate)
	goes(t, l, slice(0, 2, 9), has(co(0, 2, -1, 9), co(2, 2, 1, 6)))
	for place := range api.MaxPlaces {
		goes(t, l, offer(0, 2, place), has(co(0, 2, place, 5), co(2, 2, 1, 6)))
	}
	goes(t, l, gone(2, 2), has(co(0, 2, -1, 5)))
}

// P11.2: at the last epoch a coroutine runs, and comes, but isn't offered; one that is offered already goes.
func TestLastEpoch(t *testing.T) {
	last := api.MaxEpoch
	l := has(co(0, last-1, -1, 5), co(1, last, -1, 6), co(2, last, 0, 7))
	goes(t, l, offer(0, last-1, 2), has(co(0, last-1, 2, 5), co(1, last, -1, 6), co(2, last, 0, 7)))
	for place := range api.MaxPlaces {
		refused(t, l, offer(1, last, place), api.ErrMany)
	}
	refused(t, l, offer(1, last-1, 0), api.ErrLate)
	refused(t, l, offer(2, last, 0), api.ErrLate)
	goes(t, l, slice(1, last, 9), has(co(0, last-1, -1, 5), co(1, last, -1, 9), co(2, last, 0, 7)))
	goes(t, l, gone(2, last), l[:2])
	goes(t, l[:1], take(2, last, 8), has(co(0, last-1, -1, 5), co(2, last, -1, 8)))
}

// P11.2: chapter 9's Check's error comes ahead of the others.
func TestWrongRecords(t *testing.T) {
	l := has(co(1, 2, 0, 5))
	for _, r := range each(1, 2) {
		if err := record.Check(r); err != api.OK {
			t.Fatalf("%+v: %d", r, err)
		}
		for _, c := range []struct {
			want   api.Errno
			change func(r *api.Rec)
		}{
			{api.ErrForm, func(r *api.Rec) { r.Kind = 0 }},
			{api.ErrForm, func(r *api.Rec) { r.Kind = 6 }},
			{api.ErrRange, func(r *api.Rec) { r.Co = -1 }},
			{api.ErrRange, func(r *api.Rec) { r.Co = api.MaxCos }},
			{api.ErrRange, func(r *api.Rec) { r.Epoch = -1 }},
			{api.ErrRange, func(r *api.Rec) { r.Epoch = api.MaxEpoch + 1 }},
			{api.ErrRange, func(r *api.Rec) { r.Place = -1 }},
			{api.ErrRange, func(r *api.Rec) { r.Place = api.MaxPlaces }},
			{api.ErrMany, func(r *api.Rec) { r.Says = ones(api.MaxSays + 1) }},
			{api.ErrMany, func(r *api.Rec) { r.Image = ones(api.MaxImage + 1) }},
			{api.ErrForm, func(r *api.Rec) { r.Epoch = 0 }},
		} {
			faulty := r
			c.change(&faulty)
			if err := record.Check(faulty); err != c.want {
				t.Fatalf("%+v: %d, want %d", faulty, err, c.want)
			}
			refused(t, l, faulty, c.want)
			refused(t, nil, faulty, c.want)
			got, err := Replay(log(faulty))
			fails(t, "Replay", got, err, c.want)
		}
	}
	refused(t, l, api.Rec{}, api.ErrForm)
	refused(t, l, take(1, 1), api.ErrForm)
	refused(t, l, slice(0, 2), api.ErrForm)
	refused(t, l, begin(0), api.ErrForm)
}

// P11.3: what is offered runs no more, and goes no further, till it is gone; then it isn't there.
func TestOffered(t *testing.T) {
	for id := range api.MaxCos {
		for place := range api.MaxPlaces {
			l := has(co(0, 3, -1, 5), co(1, 3, -1, 5), co(2, 3, -1, 5))
			l[id].Offered = place
			for epoch := 1; epoch <= api.MaxEpoch; epoch++ {
				for _, r := range each(id, epoch) {
					switch {
					case r.Kind == api.RBegin || r.Kind == api.RTake:
						refused(t, l, r, api.ErrTwice)
					case r.Kind == api.RGone && epoch == 3:
						goes(t, l, r, slices.Concat(l[:id], l[id+1:]))
					default:
						refused(t, l, r, api.ErrLate)
					}
				}
			}
			for to := range api.MaxPlaces {
				refused(t, l, offer(id, 3, to), api.ErrLate)
			}
			left := slices.Concat(l[:id], l[id+1:])
			for _, r := range log(slice(id, 3, 9), offer(id, 3, place), gone(id, 3)) {
				refused(t, left, r, api.ErrWho)
			}
		}
	}
}

// P11.2: as many records as a log has, and one more, whatever they are.
func TestLongLogs(t *testing.T) {
	l := log(begin(1, 0))
	for k := range api.MaxLog {
		l = append(l, slice(1, 1, k))
	}
	got, err := Replay(l[:api.MaxLog])
	is(t, "Replay", got, err, has(co(1, 1, -1, api.MaxLog-2)))
	got, err = Replay(l)
	fails(t, "Replay", got, err, api.ErrMany)
	got, err = Replay(make([]api.Rec, api.MaxLog+1))
	fails(t, "Replay", got, err, api.ErrMany)
	got, err = Replay(make([]api.Rec, api.MaxLog))
	fails(t, "Replay", got, err, api.ErrForm)
	l[api.MaxLog-1] = gone(1, 1)
	got, err = Replay(l[:api.MaxLog])
	fails(t, "Replay", got, err, api.ErrLate)
	for _, none := range [][]api.Rec{nil, log()} {
		got, err = Replay(none)
		is(t, "Replay of none", got, err, nil)
	}
}

// P11.2: a coroutine that goes away and comes again, up to the last epoch.
func TestAgain(t *testing.T) {
	l := log(begin(2, 1), offer(2, 1, 0), gone(2, 1))
	for epoch := 3; epoch <= 79; epoch += 2 {
		l = append(l, take(2, epoch, epoch), offer(2, epoch, 1), gone(2, epoch))
		got, err := Replay(l[:len(l)-1])
		is(t, "Replay", got, err, has(co(2, epoch, 1, epoch)))
		got, err = Replay(l)
		is(t, "Replay", got, err, nil)
	}
	if len(l) != api.MaxLog {
		t.Fatalf("%d records", len(l))
	}
}

// P11.2: Replay answers the first error, wherever it comes, and no list.
func TestWrongLogs(t *testing.T) {
	sound := log(begin(1, 5), slice(1, 1, 6), take(0, 4, 7), offer(1, 1, 2), slice(0, 4, 8), gone(1, 1), take(1, 2, 1))
	faults := []struct {
		r    api.Rec
		want []api.Errno // with so many of the others ahead
	}{
		{api.Rec{}, slices.Repeat([]api.Errno{api.ErrForm}, 8)},
		{slice(2, 1, 1), slices.Repeat([]api.Errno{api.ErrWho}, 8)},
		{take(2, 1, 1), slices.Repeat([]api.Errno{api.ErrLate}, 8)},
		{slice(3, 1, 1), slices.Repeat([]api.Errno{api.ErrRange}, 8)},
		{gone(1, 1), []api.Errno{api.ErrWho, api.ErrLate, api.ErrLate, api.ErrLate, api.OK, api.OK, api.ErrWho, api.ErrLate}},
		{offer(0, 4, 1), []api.Errno{api.ErrWho, api.ErrWho, api.ErrWho, api.OK, api.OK, api.OK, api.OK, api.OK}},
		{begin(1, 3), []api.Errno{api.OK, api.ErrTwice, api.ErrTwice, api.ErrTwice, api.ErrTwice, api.ErrTwice, api.OK, api.ErrTwice}},
	}
	got, err := Replay(sound)
	is(t, "Replay", got, err, has(co(0, 4, -1, 8), co(1, 2, -1, 1)))
	for _, c := range faults {
		for k, want := range c.want {
			if want == api.OK {
				if _, err := Replay(append(slices.Clone(sound[:k]), c.r)); err != api.OK {
					t.Errorf("Replay of %+v behind %d records: %d", c.r, k, err)
				}
				continue
			}
			got, err := Replay(append(slices.Clone(sound[:k]), c.r))
			fails(t, "Replay", got, err, want)
			// What comes behind the first error counts for nothing.
			got, err = Replay(slices.Concat(sound[:k], log(c.r), sound[k:], log(api.Rec{}, slice(2, 1, 1))))
			fails(t, "Replay", got, err, want)
		}
	}
}
