package disk

import (
	"math"
	"reflect"
	"slices"
	"strings"
	"testing"

	"wanderer/api"
)

// Lines of right records, one of each kind.
const (
	begin = "1 0 1 0 0 7\n"
	slice = "2 1 2 0 2 7 -8 1 0\n"
	offer = "3 1 2 2 0\n"
	take  = "4 2 100 0 0 -1\n"
	gone  = "5 0 1 0 0\n"
)

// sample: the records of these lines.
func sample() []api.Rec {
	return []api.Rec{
		{Kind: api.RBegin, Epoch: 1, Image: []int{7}},
		{Kind: api.RSlice, Co: 1, Epoch: 2, Says: []int{7, -8}, Image: []int{1, 0}},
		{Kind: api.ROffer, Co: 1, Epoch: 2, Place: 2},
		{Kind: api.RTake, Co: 2, Epoch: 100, Image: []int{-1}},
		{Kind: api.RGone, Epoch: 1},
	}
}

// of: a disk of two texts.
func of(safe, wait string) api.Disk {
	return api.Disk{Safe: []byte(safe), Wait: []byte(wait)}
}

// wide: a right record whose line has just so many bytes, from 13 to 2410.
func wide(size int) (api.Rec, string) {
	r := api.Rec{Kind: api.RTake, Epoch: 2, Image: slices.Repeat([]int{1}, (size-10)/2)}
	line := "4 0 2 0 0" + strings.Repeat(" 1", (size-10)/2)
	if size%2 > 0 {
		r.Image[len(r.Image)-1] = 11
		line += "1"
	}
	return r, line + "\n"
}

// full: so many lines of so many bytes.
func full(lines, size int) string {
	_, line := wide(size)
	return strings.Repeat(line, lines)
}

// is: a disk of these two texts was answered, and no error.
func is(t *testing.T, what string, d api.Disk, err api.Errno, safe, wait string) {
	t.Helper()
	if string(d.Safe) != safe || string(d.Wait) != wait || err != api.OK {
		t.Errorf("%s: %.300q, %.300q, %d, want %.300q, %.300q", what, d.Safe, d.Wait, err, safe, wait)
	}
}

// fails: this error was answered, and nothing else.
func fails(t *testing.T, what string, d api.Disk, err, want api.Errno) {
	t.Helper()
	if !reflect.DeepEqual(d, api.Disk{}) || err != want {
		t.Errorf("%s: %.300q, %.300q, %d, want error %d", what, d.Safe, d.Wait, err, want)
	}
}

// recovers: of a disk of these two texts there is this log, and these records; recovered again it is the same.
func recovers(t *testing.T, safe, wait, log string, want []api.Rec) {
	t.Helper()
	d := of(safe, wait)
	for _, what := range []string{"recovered", "recovered again"} {
		now, l, err := Recover(d)
		is(t, what, now, err, log, "")
		if !alike(l, want) {
			t.Errorf("%s, of %.300q, %.300q: %v, want %v", what, d.Safe, d.Wait, l, want)
		}
		d = now
	}
}

// alike: are the records of two lists alike, lists without anything too?
func alike(a, b []api.Rec) bool {
	return slices.EqualFunc(a, b, func(a, b api.Rec) bool {
		return a.Kind == b.Kind && a.Co == b.Co && a.Epoch == b.Epoch && a.Place == b.Place &&
			slices.Equal(a.Says, b.Says) && slices.Equal(a.Image, b.Image)
	})
}

// wrong: a disk has this error; the others say it ahead of all that they may say.
func wrong(t *testing.T, d api.Disk, want api.Errno) {
	t.Helper()
	if err := Check(d); err != want {
		t.Errorf("Check of %.300q, %.300q: %d, want %d", d.Safe, d.Wait, err, want)
	}
	for _, r := range append(sample(), api.Rec{}, api.Rec{Kind: api.RGone, Epoch: -1}) {
		put, err := Put(d, r)
		fails(t, "Put", put, err, want)
	}
	for _, n := range []int{math.MinInt, -1, 0, len(d.Wait), len(d.Wait) + 1, math.MaxInt} {
		crashed, err := Crash(d, n)
		fails(t, "Crash", crashed, err, want)
	}
	synced, err := Sync(d)
	fails(t, "Sync", synced, err, want)
	recovered, l, err := Recover(d)
	fails(t, "Recover", recovered, err, want)
	if l != nil {
		t.Errorf("Recover of %.300q, %.300q: %v, and error %d", d.Safe, d.Wait, l, want)
	}
}

// P10.1, P10.2: nothing is on an empty disk.
func TestEmpty(t *testing.T) {
	for _, d := range []api.Disk{{}, of("", ""), {Safe: []byte{}}, {Wait: []byte{}}} {
		if err := Check(d); err != api.OK {
			t.Errorf("Check: %d", err)
		}
		synced, err := Sync(d)
		is(t, "Sync", synced, err, "", "")
		crashed, err := Crash(d, 0)
		is(t, "Crash", crashed, err, "", "")
		put, err := Put(d, sample()[0])
		is(t, "Put", put, err, "", begin)
		for _, n := range []int{math.MinInt, -1, 1, math.MaxInt} {
			crashed, err = Crash(d, n)
			fails(t, "Crash", crashed, err, api.ErrRange)
		}
	}
	recovers(t, "", "", "", nil)
}

// P10.1: a disk is right with any lines of records in Safe, whatever Waits.
func TestRight(t *testing.T) {
	for _, safe := range []string{"", begin, slice, offer, take, gone, begin + begin, gone + take + offer + slice + begin} {
		for _, wait := range []string{"", "\n", "x", "x\n", "5 0 1", "5 0 1 0 0", gone, gone + "\n", "\x00\xff", begin + slice} {
			if err := Check(of(safe, wait)); err != api.OK {
				t.Errorf("%q, %q: %d", safe, wait, err)
			}
		}
	}
}

// P10.1: the lines that chapter 9's Parse refuses, an empty one, and one without its line feed.
func TestWrongLines(t *testing.T) {
	for _, c := range []struct {
		line string
		err  api.Errno
	}{
		{"\n", api.ErrText},
		{"x\n", api.ErrText},
		{" \n", api.ErrText},
		{"5 0 1 0\n", api.ErrText},
		{"5 0 1 0 1\n", api.ErrText},
		{"5 0 1 0 00\n", api.ErrText},
		{" 5 0 1 0 0\n", api.ErrText},
		{"5 0 1 0 0 \n", api.ErrText},
		{"5 0 1 0 0\r\n", api.ErrText},
		{"5 0 1 0 0\x00\n", api.ErrText},
		{"6 0 1 0 0\n", api.ErrForm},
		{"0 0 1 0 0\n", api.ErrForm},
		{"5 0 0 0 0\n", api.ErrForm},
		{"5 0 1 1 0\n", api.ErrForm},
		{"1 0 1 0 0\n", api.ErrForm},
		{"5 3 1 0 0\n", api.ErrRange},
		{"5 0 101 0 0\n", api.ErrRange},
		{"3 0 1 3 0\n", api.ErrRange},
		{"2 0 1 0 41" + strings.Repeat(" 1", 42) + "\n", api.ErrMany},
		{"4 0 2 0 0" + strings.Repeat(" 1", 1201) + "\n", api.ErrMany},
		{"5 0 1 0 0", api.ErrTorn},
		{"5 0 1 0 ", api.ErrTorn},
		{"6 0 1 0 0", api.ErrTorn},
		{"5 3 1 0 0", api.ErrTorn},
		{"2 0 1 0 41" + strings.Repeat(" 1", 42), api.ErrTorn},
		{"x", api.ErrTorn},
		{"\r", api.ErrTorn},
	} {
		for _, ahead := range []string{"", gone, begin + slice + offer, full(119, 20)} {
			wrong(t, of(ahead+c.line, ""), c.err)
			wrong(t, of(ahead+c.line, gone), c.err)
			// What waits is no part of the line.
			wrong(t, of(ahead+c.line, "\n"), c.err)
			recovers(t, ahead, c.line+gone, ahead, parsed(t, ahead))
			// What is behind it isn't asked, as what is told first is the answer.
			if strings.HasSuffix(c.line, "\n") {
				wrong(t, of(ahead+c.line+gone, ""), c.err)
				wrong(t, of(ahead+c.line+"x", ""), c.err)
				wrong(t, of(ahead+c.line+"x\n", ""), c.err)
				wrong(t, of(ahead+c.line+"6 0 1 0 0\n", ""), c.err)
				wrong(t, of(ahead+c.line+"5 3 1 0 0\n", ""), c.err)
				wrong(t, of(ahead+c.line+full(121, 20), ""), c.err)
			}
		}
	}
}

// parsed: the records of lines, each of which is in the sample or is wide.
func parsed(t *testing.T, lines string) (l []api.Rec) {
	t.Helper()
	known := []string{begin, slice, offer, take, gone}
	for line := range strings.Lines(lines) {
		if k := slices.Index(known, line); k >= 0 {
			l = append(l, sample()[k])
			continue
		}
		r, text := wide(len(line))
		if text != line {
			t.Fatalf("%q is no line that is known", line)
		}
		l = append(l, r)
	}
	return l
}

// P10.1: Safe and Wait together of as many bytes as there may be, and one more, which is told ahead of all else.
func TestManyBytes(t *testing.T) {
	for _, c := range []struct{ safe, wait string }{
		{full(120, 500), ""},
		{full(119, 500), full(1, 500)},
		{full(60, 500), strings.Repeat("x", 30000)},
		{"", strings.Repeat("\n", 60000)},
		{"", full(30, 2000)},
		{gone, strings.Repeat("x", 59990)},
	} {
		if err := Check(of(c.safe, c.wait)); err != api.OK {
			t.Errorf("%d, %d bytes: %d", len(c.safe), len(c.wait), err)
		}
		wrong(t, of(c.safe, c.wait+"x"), api.ErrMany)
		if c.safe != "" {
			wrong(t, of(c.safe+"\n", c.wait), api.ErrMany)
			wrong(t, of("6"+c.safe, c.wait), api.ErrMany)
			wrong(t, of(c.safe+"x", c.wait), api.ErrMany)
		}
	}
	wrong(t, of("x\n", strings.Repeat("x", 59999)), api.ErrMany)
	wrong(t, of("x\n", strings.Repeat("x", 59998)), api.ErrText)
	wrong(t, of("x", strings.Repeat("x", 60000)), api.ErrMany)
	wrong(t, of("x", strings.Repeat("x", 59999)), api.ErrTorn)
	wrong(t, of(strings.Repeat("x", 60001), ""), api.ErrMany)
	wrong(t, of(strings.Repeat("x", 60000), ""), api.ErrTorn)
	wrong(t, of(strings.Repeat("1", 59999)+"\n", ""), api.ErrText)
}

// P10.1: as many lines in Safe as there may be, and one more: what else is wrong with that is told first.
func TestManyLines(t *testing.T) {
	all := strings.Repeat(gone, 120)
	if err := Check(of(all, all)); err != api.OK {
		t.Errorf("120 lines: %d", err)
	}
	wrong(t, of(all+gone, ""), api.ErrMany)
	wrong(t, of(all+gone+"x", ""), api.ErrMany)
	wrong(t, of(all+"x", ""), api.ErrTorn)
	wrong(t, of(all+"5 0 1 0 0", ""), api.ErrTorn)
	wrong(t, of(all+"\n", ""), api.ErrText)
	wrong(t, of(all+"6 0 1 0 0\n", ""), api.ErrForm)
	wrong(t, of(all+"5 3 1 0 0\n", ""), api.ErrRange)
}

// P10.1: disks held against each other, field by field, whatever they are.
func TestSame(t *testing.T) {
	texts := []string{"", "\n", "x", "x\n", "xx", gone, gone + gone, begin, "5 0 1 0 0", "5 0 1 0 0\x00", strings.Repeat("x", 60001)}
	for _, safe := range texts {
		for _, wait := range texts {
			for _, otherSafe := range texts {
				for _, otherWait := range texts {
					want := safe == otherSafe && wait == otherWait
					if got := Same(of(safe, wait), of(otherSafe, otherWait)); got != want {
						t.Errorf("%.20q, %.20q and %.20q, %.20q: %t", safe, wait, otherSafe, otherWait, got)
					}
				}
			}
		}
	}
	if !Same(api.Disk{}, of("", "")) || !Same(of("", ""), api.Disk{}) {
		t.Errorf("nil and empty lists are not the same")
	}
}

// P10.2: records put, synced, crashed and recovered one after the other.
func TestOneAfterTheOther(t *testing.T) {
	recs := sample()
	d, err := Put(api.Disk{}, recs[0])
	is(t, "put", d, err, "", begin)
	d, err = Put(d, recs[1])
	is(t, "put", d, err, "", begin+slice)
	d, err = Sync(d)
	is(t, "synced", d, err, begin+slice, "")
	d, err = Sync(d)
	is(t, "synced again", d, err, begin+slice, "")
	d, err = Put(d, recs[2])
	is(t, "put", d, err, begin+slice, offer)
	d, err = Put(d, recs[3])
	is(t, "put", d, err, begin+slice, offer+take)
	recovers(t, begin+slice, offer+take, begin+slice+offer+take, recs[:4])
	d, err = Crash(d, 14)
	is(t, "crashed", d, err, begin+slice, offer+"4 2 ")
	recovers(t, begin+slice, offer+"4 2 ", begin+slice+offer, recs[:3])
	torn, err := Sync(d)
	fails(t, "synced with a line that is torn", torn, err, api.ErrTorn)
	d, err = Put(d, recs[4])
	is(t, "put behind a line that is torn", d, err, begin+slice, offer+"4 2 "+gone)
	recovers(t, begin+slice, offer+"4 2 "+gone, begin+slice+offer, recs[:3])
	d, err = Crash(d, 0)
	is(t, "crashed", d, err, begin+slice, "")
	d, l, err := Recover(d)
	is(t, "recovered", d, err, begin+slice, "")
	if !alike(l, recs[:2]) {
		t.Errorf("recovered: %v", l)
	}
	d, err = Put(d, recs[4])
	is(t, "put", d, err, begin+slice, gone)
	d, err = Sync(d)
	is(t, "synced", d, err, begin+slice+gone, "")
}

// P10.2: no record is put that chapter 9's Print refuses, even where there is no room for any.
func TestPutNoRecord(t *testing.T) {
	for _, d := range []api.Disk{{}, of(gone, begin), of(begin, "x"), of("", strings.Repeat("x", 60000))} {
		for _, c := range []struct {
			r   api.Rec
			err api.Errno
		}{
			{api.Rec{}, api.ErrForm},
			{api.Rec{Kind: api.RGone}, api.ErrForm},
			{api.Rec{Kind: api.RBegin, Epoch: 1}, api.ErrForm},
			{api.Rec{Kind: api.RGone, Epoch: 1, Co: 3}, api.ErrRange},
			{api.Rec{Kind: api.RGone, Epoch: 101}, api.ErrRange},
			{api.Rec{Kind: api.RTake, Epoch: 1, Image: make([]int, 1201)}, api.ErrMany},
		} {
			put, err := Put(d, c.r)
			fails(t, "Put", put, err, c.err)
		}
	}
}

// P10.2: a record that just fits, beside what is safe, what waits, or both, and one that doesn't by one byte.
func TestPutFits(t *testing.T) {
	for _, c := range []struct{ safe, wait string }{
		{"", strings.Repeat("x", 59500)},
		{full(119, 500), ""},
		{full(100, 500), strings.Repeat("\n", 9500)},
		{full(119, 500), ""},
		{full(100, 500), full(19, 500)},
		{full(1, 499), full(118, 500) + "x"},
	} {
		r, line := wide(500)
		put, err := Put(of(c.safe, c.wait), r)
		is(t, "Put of what just fits", put, err, c.safe, c.wait+line)
		put, err = Put(put, sample()[4])
		fails(t, "Put where there is no room", put, err, api.ErrMany)
		r, _ = wide(501)
		put, err = Put(of(c.safe, c.wait), r)
		fails(t, "Put of what doesn't fit by one byte", put, err, api.ErrMany)
		r, _ = wide(500)
		put, err = Put(of(c.safe, c.wait+"x"), r)
		fails(t, "Put where one byte is missing", put, err, api.ErrMany)
	}
}

// P10.2: a record is put behind as many as there may be, but it isn't synced.
func TestPutBehindAll(t *testing.T) {
	all := strings.Repeat(gone, 120)
	d, err := Put(of(all, ""), sample()[0])
	is(t, "Put", d, err, all, begin)
	synced, err := Sync(d)
	fails(t, "Sync", synced, err, api.ErrMany)
	recovers(t, all, begin, all, slices.Repeat(sample()[4:], 120))
}

// P10.2: what waits is synced if it is lines of records, and if these are no more than there may be; what is wrong of that first is told.
func TestSync(t *testing.T) {
	all := strings.Repeat(gone, 120)
	for _, c := range []struct{ safe, wait string }{
		{"", gone},
		{gone, ""},
		{begin + slice, offer + take + gone},
		{"", all},
		{all, ""},
		{all[:500], all[500:]},
		{full(60, 500), full(60, 500)},
		{"", full(30, 2000)},
	} {
		synced, err := Sync(of(c.safe, c.wait))
		is(t, "Sync", synced, err, c.safe+c.wait, "")
	}
	for _, c := range []struct {
		safe, wait string
		err        api.Errno
	}{
		{"", "x", api.ErrTorn},
		{gone, "5 0 1 0 0", api.ErrTorn},
		{"", "\n", api.ErrText},
		{gone, begin + "\n" + gone, api.ErrText},
		{gone, "x\n6 0 1 0 0\n", api.ErrText},
		{gone, "6 0 1 0 0\nx\n", api.ErrForm},
		{gone, "5 3 1 0 0\n" + "x", api.ErrRange},
		{"", "2 0 1 0 41" + strings.Repeat(" 1", 42) + "\n", api.ErrMany},
		{gone, all, api.ErrMany},
		{all, gone, api.ErrMany},
		{all, gone + "x", api.ErrMany},
		{all, "x", api.ErrTorn},
		{all, "x\n", api.ErrText},
		{gone, all[:1190] + "5 0 0 0 0\n", api.ErrForm},
	} {
		synced, err := Sync(of(c.safe, c.wait))
		fails(t, "Sync", synced, err, c.err)
	}
}

// P10.2: of what waits the first bytes are left, none, all, or any of them; from there on there are no more.
func TestCrash(t *testing.T) {
	for _, safe := range []string{"", gone, begin + slice} {
		for _, wait := range []string{"", "x", "\n", gone, offer + take + "5 0 "} {
			for n := range len(wait) + 1 {
				d, err := Crash(of(safe, wait), n)
				is(t, "Crash", d, err, safe, wait[:n])
			}
			for _, n := range []int{math.MinInt, -len(safe) - 1, -1, len(wait) + 1, len(wait) + len(safe) + 1, math.MaxInt} {
				d, err := Crash(of(safe, wait), n)
				fails(t, "Crash", d, err, api.ErrRange)
			}
		}
	}
}

// P10.2: the whole lines of records at the begin of what waits are safe then: none of one that is cut, or is no record, and none behind it.
func TestRecover(t *testing.T) {
	recs := sample()
	for _, c := range []struct {
		safe, wait, log string
		l               []api.Rec
	}{
		{begin, "", begin, recs[:1]},
		{"", begin, begin, recs[:1]},
		{begin + slice, offer + take, begin + slice + offer + take, recs[:4]},
		{"", begin + slice + offer + take + gone, begin + slice + offer + take + gone, recs},
		{begin, slice + offer[:len(offer)-1], begin + slice, recs[:2]},
		{begin, slice[:1], begin, recs[:1]},
		{begin, slice + "5 0 1" + gone, begin + slice, recs[:2]},
		{begin, slice + "5 0 1\n" + gone, begin + slice, recs[:2]},
		{begin, slice + "\n" + gone, begin + slice, recs[:2]},
		{begin, "\n" + slice, begin, recs[:1]},
		{begin, " " + slice, begin, recs[:1]},
		{"", "x\n" + begin, "", nil},
		{begin, slice + "6 0 1 0 0\n" + gone, begin + slice, recs[:2]},
		{begin, slice + "5 3 1 0 0\n" + gone, begin + slice, recs[:2]},
		{begin, slice + "4 0 2 0 0" + strings.Repeat(" 1", 1201) + "\n" + gone, begin + slice, recs[:2]},
	} {
		recovers(t, c.safe, c.wait, c.log, c.l)
	}
}

// P10.2: what is safe and the whole lines that wait come to as many records as there may be, or to more.
func TestRecoverMany(t *testing.T) {
	known := begin + slice + offer + take + gone
	for safe := range 25 {
		for _, more := range []string{"", begin, begin + slice, "x", "x\n", gone[:5]} {
			all := strings.Repeat(known, 24)
			recovers(t, strings.Repeat(known, safe), strings.Repeat(known, 24-safe)+more, all, slices.Repeat(sample(), 24))
		}
	}
	one := strings.Repeat(known, 23) + begin + slice + offer + take
	recovers(t, one, "", one, parsed(t, one))
	recovers(t, one, "x", one, parsed(t, one))
	recovers(t, one, gone+gone, one+gone, parsed(t, one+gone))
	recovers(t, full(1, 500), full(119, 500), full(120, 500), parsed(t, full(120, 500)))
	recovers(t, "", strings.Repeat(gone, 6000), strings.Repeat(gone, 120), slices.Repeat(sample()[4:], 120))
}

// P10.2: what is put behind a line that is torn goes on with it, whatever that makes.
func TestPutBehindTorn(t *testing.T) {
	d, err := Crash(of(begin, "4 0 2 0 0 7\n"), 10)
	is(t, "Crash", d, err, begin, "4 0 2 0 0 ")
	d, err = Put(d, sample()[4])
	is(t, "Put", d, err, begin, "4 0 2 0 0 "+gone)
	joined := append(sample()[:1], api.Rec{Kind: api.RTake, Epoch: 2, Image: []int{5, 0, 1, 0, 0}})
	recovers(t, begin, "4 0 2 0 0 "+gone, begin+"4 0 2 0 0 "+gone, joined)
	d, err = Sync(d)
	is(t, "Sync", d, err, begin+"4 0 2 0 0 "+gone, "")
}

// P10.3: what was synced is there, however much is kept of what wasn't; of this a beginning is, as many lines as are whole.
func TestWhateverIsKept(t *testing.T) {
	safe, wait := begin+slice, offer+take+gone
	for n := range len(wait) + 1 {
		whole := strings.Count(wait[:n], "\n")
		log := safe + strings.Join(strings.SplitAfter(wait, "\n")[:whole], "")
		recovers(t, safe, wait[:n], log, sample()[:2+whole])
		crashed, err := Crash(of(safe, wait), n)
		is(t, "Crash", crashed, err, safe, wait[:n])
	}
}
