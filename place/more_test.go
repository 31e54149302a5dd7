package place

import (
	"math/rand/v2"
	"slices"
	"testing"

	"wanderer/api"
	"wanderer/record"
)

// maker: random lists and records.
type maker struct{ *rand.Rand }

// image of a few numbers, long now and then.
func (w maker) image() (l []int) {
	n := 1 + w.IntN(4)
	if w.IntN(40) == 0 {
		n = 1 + w.IntN(api.MaxImage)
	}
	for range n {
		l = append(l, w.IntN(2000)-1000)
	}
	return l
}

// epoch: one of the first mostly, and the last ones.
func (w maker) epoch() int {
	if w.IntN(4) == 0 {
		return api.MaxEpoch - w.IntN(2)
	}
	return 1 + w.IntN(3)
}

// list: a right one.
func (w maker) list() (l []api.Co) {
	for id := range api.MaxCos {
		if w.IntN(3) > 0 {
			l = append(l, co(id, w.epoch(), w.IntN(api.MaxPlaces+1)-1, w.image()...))
		}
	}
	return l
}

// record: of any kind, right mostly; of one that is there it has the right epoch, mostly.
func (w maker) record(l []api.Co) api.Rec {
	r := each(w.IntN(api.MaxCos), w.epoch())[w.IntN(5)]
	for _, c := range l {
		if c.ID == r.Co && w.IntN(5) > 0 {
			r.Epoch = c.Epoch
		}
	}
	if r.Kind == api.RBegin && w.IntN(4) > 0 {
		r.Epoch = 1
	}
	if len(r.Image) > 0 {
		r.Image = w.image()
	}
	if r.Kind == api.ROffer {
		r.Place = w.IntN(api.MaxPlaces)
	}
	if w.IntN(20) == 0 {
		w.spoil(&r)
	}
	return r
}

// spoil one field of a record.
func (w maker) spoil(r *api.Rec) {
	switch w.IntN(6) {
	case 0:
		r.Kind = w.IntN(9) - 2
	case 1:
		r.Co = w.IntN(api.MaxCos+2) - 1
	case 2:
		r.Epoch = w.IntN(api.MaxEpoch+3) - 1
	case 3:
		r.Place = w.IntN(api.MaxPlaces+2) - 1
	case 4:
		r.Says = ones(w.IntN(api.MaxSays + 2))
	case 5:
		r.Image = ones(w.IntN(2) * (1 + w.IntN(api.MaxImage+1)))
	}
}

// model: what a place has, coroutine by coroutine.
type model [api.MaxCos]struct {
	there          bool
	epoch, offered int
	image          []int
}

func modelOf(l []api.Co) (m model) {
	for _, c := range l {
		m[c.ID].there, m[c.ID].epoch, m[c.ID].offered, m[c.ID].image = true, c.Epoch, c.Offered, c.Image
	}
	return m
}

func (m model) list() (l []api.Co) {
	for id, c := range m {
		if c.there {
			l = append(l, co(id, c.epoch, c.offered, c.image...))
		}
	}
	return l
}

// next: the model behind a record, or the error that the chapter asks for.
func (m model) next(r api.Rec) (model, api.Errno) {
	if err := record.Check(r); err != api.OK {
		return m, err
	}
	c := &m[r.Co]
	running := c.there && c.offered == -1
	switch r.Kind {
	case api.RBegin, api.RTake:
		if c.there {
			return m, api.ErrTwice
		}
		if r.Kind == api.RBegin && r.Epoch > 1 || r.Kind == api.RTake && r.Epoch == 1 {
			return m, api.ErrLate
		}
		c.there, c.epoch, c.offered, c.image = true, r.Epoch, -1, r.Image
		return m, api.OK
	}
	if !c.there {
		return m, api.ErrWho
	}
	if c.epoch != r.Epoch || running != (r.Kind == api.RSlice || r.Kind == api.ROffer) {
		return m, api.ErrLate
	}
	switch {
	case r.Kind == api.RSlice:
		c.image = r.Image
	case r.Kind == api.RGone:
		c.there = false
	case r.Epoch == 100:
		return m, api.ErrMany
	default:
		c.offered = r.Place
	}
	return m, api.OK
}

// often: each of these errors came so often at least.
func often(t *testing.T, what string, seen map[api.Errno]int, least int, errors ...api.Errno) {
	t.Helper()
	for _, err := range errors {
		if seen[err] < least {
			t.Errorf("%s: error %d came %d times", what, err, seen[err])
		}
	}
}

// kept: P11.2, P11.3: all but the record's own coroutine are as they were, and of what is offered nothing changes, but that it goes.
func kept(t *testing.T, before, after []api.Co, r api.Rec) {
	t.Helper()
	for id := range api.MaxCos {
		was, now := Find(before, id), Find(after, id)
		frozen := id != r.Co || was >= 0 && before[was].Offered >= 0 && r.Kind != api.RGone
		switch {
		case !frozen:
		case (was < 0) != (now < 0), was >= 0 && !Same(before[was:was+1], after[now:now+1]):
			t.Fatalf("coroutine %d of %v is changed by %+v: %v", id, before, r, after)
		}
	}
}

// P11.2, P11.3: one random record behind another, step by step and replayed, against a model.
func TestRandomRecords(t *testing.T) {
	w := maker{rand.New(rand.NewPCG(11, 1))}
	seen, made := map[api.Errno]int{}, map[int]int{}
	for range 4000 {
		l := w.list()
		m := modelOf(l)
		var records []api.Rec
		fromNone := len(l) == 0
		for range 12 {
			r := w.record(l)
			next, want := m.next(r)
			seen[want]++
			if want != api.OK {
				refused(t, l, r, want)
				if fromNone {
					got, err := Replay(append(slices.Clone(records), r, r))
					fails(t, "Replay", got, err, want)
				}
				continue
			}
			made[r.Kind]++
			goes(t, l, r, next.list())
			kept(t, l, next.list(), r)
			m, l, records = next, next.list(), append(records, r)
		}
		if fromNone {
			got, err := Replay(records)
			is(t, "Replay", got, err, l)
		}
	}
	often(t, "Next", seen, 100, api.OK, api.ErrTwice, api.ErrLate, api.ErrWho, api.ErrMany, api.ErrRange, api.ErrForm)
	for kind := api.RBegin; kind <= api.RGone; kind++ {
		if made[kind] < 500 {
			t.Errorf("kind %d came %d times", kind, made[kind])
		}
	}
}

// checked: what Check is to answer, by a walk over what is wrong with each, in order.
func checked(l []api.Co) api.Errno {
	if len(l) >= 4 {
		return api.ErrMany
	}
	last := -1
	for _, c := range l {
		if c.ID < 0 || c.ID > 2 || c.Epoch < 1 || c.Epoch > 100 || c.Offered < -1 || c.Offered > 2 {
			return api.ErrRange
		}
		if len(c.Image) == 0 || len(c.Image) > 1200 {
			return api.ErrMany
		}
		if c.ID <= last {
			return api.ErrTwice
		}
		last = c.ID
	}
	return api.OK
}

// P11.1, P11.2: random lists, right and wrong: Check, and Find.
func TestRandomLists(t *testing.T) {
	w := maker{rand.New(rand.NewPCG(11, 2))}
	seen := map[api.Errno]int{}
	for range 20000 {
		var l []api.Co
		for range w.IntN(5) {
			c := co(len(l), w.epoch(), w.IntN(4)-1, w.image()...)
			switch w.IntN(14) {
			case 0:
				c.ID = w.IntN(7) - 2
			case 1:
				c.Epoch = w.IntN(104) - 1
			case 2:
				c.Offered = w.IntN(7) - 3
			case 3:
				c.Image = ones([]int{0, 1, api.MaxImage, api.MaxImage + 1}[w.IntN(4)])
			case 4:
				c.ID += w.IntN(3) - 1
			}
			l = append(l, c)
		}
		want := checked(l)
		seen[want]++
		if want == api.OK {
			right(t, l)
		} else {
			wrong(t, l, want)
		}
		for id := -2; id < 6; id++ {
			at := -1
			for k := len(l) - 1; k >= 0; k-- {
				if l[k].ID == id {
					at = k
				}
			}
			if got := Find(l, id); got != at {
				t.Fatalf("Find of %d in %v: %d, want %d", id, l, got, at)
			}
		}
	}
	often(t, "Check", seen, 500, api.OK, api.ErrMany, api.ErrRange, api.ErrTwice)
}

// roomy: a copy of l with something in the spare room behind it.
func roomy[T any](l []T, spare T) []T {
	return append(slices.Clone(l), spare, spare)[:len(l)]
}

// room: all that a list has, in its spare room, too.
func room(l []api.Co) (all []int) {
	for _, c := range l[:cap(l)] {
		all = append(all, c.ID, c.Epoch, c.Offered, len(c.Image))
		all = append(all, c.Image[:cap(c.Image)]...)
	}
	return all
}

// apart: no two images of a list share memory; all of it is marked.
func apart(t *testing.T, l []api.Co) {
	t.Helper()
	for mark, c := range l[:cap(l)] {
		for k := range c.Image[:cap(c.Image)] {
			c.Image[:cap(c.Image)][k] = 7000 + mark
		}
	}
	for mark, c := range l[:cap(l)] {
		if slices.ContainsFunc(c.Image[:cap(c.Image)], func(n int) bool { return n != 7000+mark }) {
			t.Fatalf("the images of a list share memory")
		}
	}
	for k := range l[:cap(l)] {
		l[:cap(l)][k] = co(-9, -9, -9)
	}
}

// P2: what is handed in is only read, and what is answered shares no memory with it, nor do the lists of one answer.
func TestMemory(t *testing.T) {
	w := maker{rand.New(rand.NewPCG(11, 3))}
	answered := 0
	for range 5000 {
		l := w.list()
		r := w.record(l)
		for k := range l {
			l[k].Image = roomy(l[k].Image, 77)
		}
		l = roomy(l, co(1, 1, 1, 77))
		r.Says, r.Image = roomy(r.Says, 77), roomy(r.Image, 77)
		records := roomy(log(begin(0, roomy(w.image(), 77)...), take(1, 2, w.image()...), slice(0, 1, w.image()...), begin(2, w.image()...), r), gone(1, 1))
		handed := func() []int {
			all := slices.Concat(room(l), r.Says[:cap(r.Says)], r.Image[:cap(r.Image)])
			for _, r := range records[:cap(records)] {
				all = append(all, r.Kind, r.Co, r.Epoch, r.Place, len(r.Says), len(r.Image))
				all = append(all, r.Image[:cap(r.Image)]...)
			}
			return all
		}
		had := handed()
		Check(l)
		Find(l, 1)
		Same(l, l)
		next, _ := Next(l, r)
		replayed, _ := Replay(records[:4])
		more, _ := Replay(records)
		answered += len(next) + len(more)
		for _, answer := range [][]api.Co{next, replayed, more} {
			apart(t, answer)
		}
		if !slices.Equal(handed(), had) {
			t.Fatalf("what was handed in was changed: %v, it was %v", handed(), had)
		}
	}
	if answered < 3000 {
		t.Errorf("only %d coroutines were answered", answered)
	}
}
