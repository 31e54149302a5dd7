package disk

import (
	"bytes"
	"math/rand/v2"
	"slices"
	"strings"
	"testing"

	"wanderer/api"
	"wanderer/record"
)

// reckoned: what Check is to answer of what is safe, and how many records and bytes are right ahead of what is wrong.
func reckoned(safe string) (records, size int, err api.Errno) {
	lines := strings.SplitAfter(safe, "\n")
	for k, line := range lines {
		text, whole := strings.CutSuffix(line, "\n")
		_, wrong := record.Parse(text)
		switch {
		case line == "" && k == len(lines)-1:
			return k, size, api.OK
		case !whole:
			return k, size, api.ErrTorn
		case wrong != api.OK:
			return k, size, wrong
		case k >= api.MaxLog:
			return k, size, api.ErrMany
		}
		size += len(line)
	}
	return len(lines), size, api.OK
}

// maker: random records and texts.
type maker struct{ *rand.Rand }

func (w maker) row(n int) (l []int) {
	for range n {
		l = append(l, w.IntN(2000)-1000)
	}
	return l
}

// record: a right one of any kind, long in so many of a hundred.
func (w maker) record(long int) api.Rec {
	r := api.Rec{Kind: api.RBegin + w.IntN(5), Co: w.IntN(api.MaxCos), Epoch: 1 + w.IntN(api.MaxEpoch)}
	switch r.Kind {
	case api.ROffer:
		r.Place = w.IntN(api.MaxPlaces)
		return r
	case api.RGone:
		return r
	case api.RSlice:
		r.Says = w.row(w.IntN(5))
	}
	r.Image = w.row(1 + w.IntN(5))
	if w.IntN(100) < long {
		r.Image = w.row(1 + w.IntN(api.MaxImage))
	}
	return r
}

// line: of a right record, or now and then of something else.
func (w maker) line(wrong int) string {
	text := lineOf(w.record(10))
	if w.IntN(100) >= wrong {
		return text
	}
	switch k := w.IntN(len(text)); w.IntN(5) {
	case 0:
		return text[:k]
	case 1:
		return text[:k] + "\n" + text[k:]
	case 2:
		return text[:k] + text[k+1:]
	case 3:
		return text[:k] + string("0123456789 -\nx"[w.IntN(14)]) + text[k:]
	}
	return []string{"\n", "6 0 1 0 0\n", "5 3 1 0 0\n", "2 0 1 0 0\n", "2 0 1 0 41" + strings.Repeat(" 0", 42) + "\n"}[w.IntN(5)]
}

// text: of lines, a few mostly, so many of a hundred of them wrong; now and then it is cut.
func (w maker) text(wrong int) string {
	var b strings.Builder
	for range w.IntN([]int{3, 10, 130}[w.IntN(3)]) {
		b.WriteString(w.line(wrong))
	}
	if w.IntN(100) < 5*wrong {
		return b.String()[:w.IntN(b.Len()+1)]
	}
	return b.String()
}

// often: each of these errors came so often at least.
func often(t *testing.T, what string, seen map[api.Errno]int, least int, errors ...api.Errno) {
	t.Helper()
	for _, err := range errors {
		if seen[err] < least {
			t.Errorf("%s: error %d came %d times", what, err, seen[err])
		}
	}
}

// P10.1, P10.2: random disks, right and wrong, against what is reckoned line by line.
func TestRandomDisks(t *testing.T) {
	w := maker{rand.New(rand.NewPCG(10, 1))}
	checked, synced := map[api.Errno]int{}, map[api.Errno]int{}
	for range 3000 {
		safe, wait := w.text(w.IntN(3)), w.text(w.IntN(6))
		d := of(safe, wait)
		_, _, want := reckoned(safe)
		if len(safe)+len(wait) > api.MaxText {
			want = api.ErrMany
		}
		checked[want]++
		if want != api.OK {
			wrong(t, d, want)
			continue
		}
		if err := Check(d); err != api.OK {
			t.Errorf("Check of %q, %q: %d", safe, wait, err)
		}
		records, size, want := reckoned(safe + wait)
		synced[want]++
		now, err := Sync(d)
		if want != api.OK {
			fails(t, "Sync", now, err, want)
		} else {
			is(t, "Sync", now, err, safe+wait, "")
		}
		again, l, err := Recover(d)
		is(t, "Recover", again, err, (safe + wait)[:size], "")
		if len(l) != records {
			t.Errorf("Recover of %q, %q: %d records, want %d", safe, wait, len(l), records)
		}
	}
	often(t, "Check", checked, 30, api.OK, api.ErrMany, api.ErrText, api.ErrTorn, api.ErrForm)
	often(t, "Sync", synced, 50, api.OK, api.ErrMany, api.ErrText, api.ErrTorn, api.ErrForm)
}

// lineOf: the line of a record.
func lineOf(r api.Rec) string {
	text, _ := record.Print(r)
	return text + "\n"
}

// log: what is to be on a disk: its text, its records and where the line of each ends, and how many of them are safe.
type log struct {
	text string
	l    []api.Rec
	ends []int
	safe int
}

// size in bytes of the lines of the first n records.
func (g *log) size(n int) int {
	if n == 0 {
		return 0
	}
	return g.ends[n-1]
}

// torn: is there something behind the last line?
func (g *log) torn() bool { return len(g.text) > g.size(len(g.l)) }

// keep the first n bytes, and the records that are whole in them.
func (g *log) keep(n int) {
	g.text = g.text[:n]
	for len(g.l) > 0 && g.size(len(g.l)) > n {
		g.l, g.ends = g.l[:len(g.l)-1], g.ends[:len(g.ends)-1]
	}
}

// holds: is just that on a disk?
func (g *log) holds(t *testing.T, what string, d api.Disk, err api.Errno) {
	t.Helper()
	is(t, what, d, err, g.text[:g.size(g.safe)], g.text[g.size(g.safe):])
	if t.Failed() {
		t.FailNow()
	}
}

func (g *log) put(t *testing.T, d api.Disk, r api.Rec) (api.Disk, api.Errno) {
	now, err := Put(d, r)
	line := lineOf(r)
	if len(g.text)+len(line) > api.MaxText {
		fails(t, "Put", now, err, api.ErrMany)
		return d, api.ErrMany
	}
	g.text, g.l = g.text+line, append(g.l, r)
	g.ends = append(g.ends, len(g.text))
	g.holds(t, "Put", now, err)
	return now, api.OK
}

func (g *log) sync(t *testing.T, d api.Disk) (api.Disk, api.Errno) {
	now, err := Sync(d)
	if _, _, want := reckoned(g.text); want != api.OK {
		fails(t, "Sync", now, err, want)
		return d, want
	}
	g.safe = len(g.l)
	g.holds(t, "Sync", now, err)
	return now, api.OK
}

func (g *log) crash(t *testing.T, d api.Disk, n int) api.Disk {
	now, err := Crash(d, n)
	g.keep(g.size(g.safe) + n)
	g.holds(t, "Crash", now, err)
	return now
}

func (g *log) recover(t *testing.T, d api.Disk) api.Disk {
	now, l, err := Recover(d)
	g.keep(g.size(min(len(g.l), api.MaxLog)))
	g.safe = len(g.l)
	g.holds(t, "Recover", now, err)
	if !alike(l, g.l) {
		t.Fatalf("Recover: %v, want %v", l, g.l)
	}
	return now
}

// beginning: P10.3: wherever the power goes, what was synced is there, and a beginning of what wasn't.
func beginning(t *testing.T, d api.Disk, g log, n int) {
	t.Helper()
	crashed, err := Crash(d, n)
	if err != api.OK {
		t.Fatalf("Crash with %d bytes: %d", n, err)
	}
	recovered, l, err := Recover(crashed)
	if err != api.OK || len(recovered.Wait) > 0 || !bytes.HasPrefix(recovered.Safe, d.Safe) || !bytes.HasPrefix(slices.Concat(d.Safe, d.Wait), recovered.Safe) {
		t.Errorf("recovered: %.300q, %.300q, %d", recovered.Safe, recovered.Wait, err)
	}
	if len(l) < g.safe || len(l) > len(g.l) || !alike(l, g.l[:len(l)]) {
		t.Errorf("recovered: %d records, of %d synced and %d in all", len(l), g.safe, len(g.l))
	}
	again, more, err := Recover(recovered)
	if err != api.OK || !Same(again, recovered) || !alike(more, l) {
		t.Errorf("recovered again: %.300q, %.300q, %d records, %d", again.Safe, again.Wait, len(more), err)
	}
}

// P10.2, P10.3: disks on which records are put, which are synced, crash and are recovered in any order, against the records that are to be there.
func TestRandomDoings(t *testing.T) {
	w := maker{rand.New(rand.NewPCG(10, 2))}
	puts, syncs := map[api.Errno]int{}, map[api.Errno]int{}
	for range 40 {
		var d api.Disk
		var g log
		var err api.Errno
		others, most, long := 2+w.IntN(5), 3+w.IntN(200), w.IntN(50)
		for range 300 {
			switch k := w.IntN(most); {
			case k == 0:
				d = g.crash(t, d, w.IntN(len(d.Wait)+1))
				beginning(t, d, g, w.IntN(len(d.Wait)+1))
			case k == 1:
				d = g.recover(t, d)
			case k < others:
				d, err = g.sync(t, d)
				syncs[err]++
			case !g.torn():
				d, err = g.put(t, d, w.record(long))
				puts[err]++
			}
		}
	}
	often(t, "Put", puts, 50, api.OK, api.ErrMany)
	often(t, "Sync", syncs, 20, api.OK, api.ErrMany, api.ErrTorn)
}

// roomy: a copy of l with something in the spare room behind it.
func roomy[T any](l []T, spare T) []T {
	return append(slices.Clone(l), spare, spare)[:len(l)]
}

// spoil: all bytes of a list, those in its spare room, too.
func spoil(l []byte) {
	for k := range l[:cap(l)] {
		l[:cap(l)][k] = '#'
	}
}

// P2: what is handed in is only read; what is answered shares no memory with it, nor do the lists of one answer.
func TestMemory(t *testing.T) {
	w := maker{rand.New(rand.NewPCG(10, 3))}
	for range 500 {
		d := of(lineOf(w.record(10))+lineOf(w.record(10)), lineOf(w.record(10))+lineOf(w.record(10)))
		d.Safe, d.Wait = roomy(d.Safe, '+'), roomy(d.Wait, '+')
		r := w.record(10)
		r.Says, r.Image = roomy(r.Says, 77), roomy(r.Image, 77)
		whole := func() string {
			return string(d.Safe[:cap(d.Safe)]) + "|" + string(d.Wait[:cap(d.Wait)])
		}
		numbers := func() []int { return slices.Concat(r.Says[:cap(r.Says)], r.Image[:cap(r.Image)]) }
		had, hadNumbers := whole(), numbers()
		Check(d)
		Same(d, d)
		put, _ := Put(d, r)
		synced, _ := Sync(d)
		crashed, _ := Crash(d, w.IntN(len(d.Wait)+1))
		none, _ := Crash(d, 0)
		recovered, l, _ := Recover(d)
		for _, answer := range []api.Disk{put, synced, crashed, none, recovered} {
			waits := string(answer.Wait)
			spoil(answer.Safe)
			if string(answer.Wait) != waits {
				t.Fatalf("the lists of a disk share memory")
			}
			spoil(answer.Wait)
		}
		apart(t, l)
		if whole() != had || !slices.Equal(numbers(), hadNumbers) {
			t.Fatalf("what was handed in was changed: %q, %v, it was %q, %v", whole(), numbers(), had, hadNumbers)
		}
	}
}

// apart: no two lists of records share memory.
func apart(t *testing.T, l []api.Rec) {
	t.Helper()
	var lists [][]int
	for _, r := range l {
		lists = append(lists, r.Says[:cap(r.Says)], r.Image[:cap(r.Image)])
	}
	for mark, list := range lists {
		for k := range list {
			list[k] = mark
		}
	}
	for mark, list := range lists {
		if slices.ContainsFunc(list, func(n int) bool { return n != mark }) {
			t.Fatalf("the lists of records share memory")
		}
	}
}
