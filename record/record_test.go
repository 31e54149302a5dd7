package record

import (
	"math"
	"reflect"
	"slices"
	"strconv"
	"strings"
	"testing"

	"wanderer/api"
)

// rec: a record of coroutine 0.
func rec(kind, epoch, place int, says, image []int) api.Rec {
	return api.Rec{Kind: kind, Epoch: epoch, Place: place, Says: says, Image: image}
}

// row of numbers.
func row(l ...int) []int { return l }

// ones: so many of them.
func ones(n int) []int { return slices.Repeat(row(1), n) }

// with: a record that is changed.
func with(r api.Rec, change func(r *api.Rec)) api.Rec {
	change(&r)
	return r
}

// sample: a right record of each kind.
func sample() []api.Rec {
	return []api.Rec{
		rec(api.RBegin, 1, 0, nil, row(7)),
		rec(api.RSlice, 2, 0, row(7, -8), row(1)),
		rec(api.ROffer, 3, 2, nil, nil),
		rec(api.RTake, 4, 0, nil, row(7)),
		rec(api.RGone, 5, 0, nil, nil),
	}
}

// right: a right record is printed as text, and this is read as it.
func right(t *testing.T, r api.Rec, text string) {
	t.Helper()
	if err := Check(r); err != api.OK {
		t.Errorf("Check of %+v: %d", r, err)
	}
	if got, err := Print(r); got != text || err != api.OK {
		t.Errorf("Print of %+v: %q, %d, want %q", r, got, err, text)
	}
	if got, err := Parse(text); !alike(got, r) || !Same(got, r) || err != api.OK {
		t.Errorf("Parse of %q: %+v, %d, want %+v", text, got, err, r)
	}
}

// wrong: a wrong record has this error, isn't printed, and isn't read, if it is written as one.
func wrong(t *testing.T, r api.Rec, want api.Errno) {
	t.Helper()
	if err := Check(r); err != want {
		t.Errorf("Check of %+v: %d, want %d", r, err, want)
	}
	if text, err := Print(r); text != "" || err != want {
		t.Errorf("Print of %+v: %q, %d, want %d", r, text, err, want)
	}
	refused(t, laid(r), want)
}

// refused: with an error there is no record.
func refused(t *testing.T, text string, want api.Errno) {
	t.Helper()
	if r, err := Parse(text); !reflect.DeepEqual(r, api.Rec{}) || err != want {
		t.Errorf("Parse of %q: %+v, %d, want %d", text[:min(len(text), 200)], r, err, want)
	}
}

// laid: a record as it is written, right or not.
func laid(r api.Rec) string {
	words := []string{strconv.Itoa(r.Kind), strconv.Itoa(r.Co), strconv.Itoa(r.Epoch), strconv.Itoa(r.Place), strconv.Itoa(len(r.Says))}
	for _, n := range append(slices.Clone(r.Says), r.Image...) {
		words = append(words, strconv.Itoa(n))
	}
	return strings.Join(words, " ")
}

// alike: are all fields alike, lists without anything too?
func alike(a, b api.Rec) bool {
	plain := func(r api.Rec) api.Rec {
		r.Says, r.Image = append(row(), r.Says...), append(row(), r.Image...)
		return r
	}
	return reflect.DeepEqual(plain(a), plain(b))
}

// P9.1, P9.2, P9.3: records of each kind, with Says and without, with an Image and without, at the edges of Co, Epoch and Place.
func TestByHand(t *testing.T) {
	least, most := strconv.Itoa(math.MinInt), strconv.Itoa(math.MaxInt)
	for _, c := range []struct {
		text string
		r    api.Rec
	}{
		{"1 0 1 0 0 7", api.Rec{Kind: api.RBegin, Epoch: 1, Image: row(7)}},
		{"1 2 100 0 0 0", api.Rec{Kind: api.RBegin, Co: 2, Epoch: 100, Image: row(0)}},
		{"1 1 1 0 0 3 2 -1", api.Rec{Kind: api.RBegin, Co: 1, Epoch: 1, Image: row(3, 2, -1)}},
		{"1 1 1 0 0 3 2 -1", api.Rec{Kind: api.RBegin, Co: 1, Epoch: 1, Says: row(), Image: row(3, 2, -1)}},
		{"2 0 1 0 0 5", api.Rec{Kind: api.RSlice, Epoch: 1, Image: row(5)}},
		{"2 1 2 0 2 7 -8 1", api.Rec{Kind: api.RSlice, Co: 1, Epoch: 2, Says: row(7, -8), Image: row(1)}},
		{"2 2 100 0 1 1 1 1", api.Rec{Kind: api.RSlice, Co: 2, Epoch: 100, Says: row(1), Image: row(1, 1)}},
		{"2 2 100 0 2 1 1 1", api.Rec{Kind: api.RSlice, Co: 2, Epoch: 100, Says: row(1, 1), Image: row(1)}},
		{"2 0 10 0 2 " + least + " " + most + " " + most + " " + least, api.Rec{Kind: api.RSlice, Epoch: 10, Says: row(math.MinInt, math.MaxInt), Image: row(math.MaxInt, math.MinInt)}},
		{"3 0 1 0 0", api.Rec{Kind: api.ROffer, Epoch: 1}},
		{"3 0 1 0 0", api.Rec{Kind: api.ROffer, Epoch: 1, Says: row(), Image: row()}},
		{"3 2 100 2 0", api.Rec{Kind: api.ROffer, Co: 2, Epoch: 100, Place: 2}},
		{"3 1 7 1 0", api.Rec{Kind: api.ROffer, Co: 1, Epoch: 7, Place: 1}},
		{"4 0 1 0 0 -1000000000", api.Rec{Kind: api.RTake, Epoch: 1, Image: row(-1000000000)}},
		{"4 2 100 0 0 4 4", api.Rec{Kind: api.RTake, Co: 2, Epoch: 100, Image: row(4, 4)}},
		{"5 0 1 0 0", api.Rec{Kind: api.RGone, Epoch: 1}},
		{"5 2 100 0 0", api.Rec{Kind: api.RGone, Co: 2, Epoch: 100, Image: row()}},
	} {
		right(t, c.r, c.text)
	}
}

// P9.1: as many Says and numbers of an image as there may be, one by one and at once, near and far, and one more.
func TestMany(t *testing.T) {
	for _, n := range row(1, -1, 0, math.MaxInt, math.MinInt) {
		many := func(says, image int) api.Rec {
			return rec(api.RSlice, 1, 0, slices.Repeat(row(n), says), slices.Repeat(row(n), image))
		}
		of := func(n, times int) string { return strings.Repeat(" "+strconv.Itoa(n), times) }
		right(t, many(api.MaxSays, 1), "2 0 1 0 40"+of(n, 41))
		right(t, many(0, api.MaxImage), "2 0 1 0 0"+of(n, 1200))
		right(t, many(api.MaxSays, api.MaxImage), "2 0 1 0 40"+of(n, 1240))
		wrong(t, many(api.MaxSays+1, 1), api.ErrMany)
		wrong(t, many(0, api.MaxImage+1), api.ErrMany)
		wrong(t, many(api.MaxSays+1, api.MaxImage+1), api.ErrMany)
		wrong(t, many(api.MaxSays, api.MaxImage+1), api.ErrMany)
	}
	for _, kind := range row(api.RBegin, api.RTake) {
		right(t, rec(kind, 1, 0, nil, ones(api.MaxImage)), strconv.Itoa(kind)+" 0 1 0 0"+strings.Repeat(" 1", 1200))
		wrong(t, rec(kind, 1, 0, nil, ones(api.MaxImage+1)), api.ErrMany)
	}
}

// P9.1: kinds that are none; Co, Epoch and Place past their edges, near and far, of each kind.
func TestRanges(t *testing.T) {
	far := row(-1, -2, math.MinInt, math.MaxInt)
	for _, kind := range append(far, 0, 6, 7) {
		for _, r := range sample() {
			wrong(t, with(r, func(r *api.Rec) { r.Kind = kind }), api.ErrForm)
		}
	}
	for _, r := range sample() {
		for _, n := range append(far, 3, 4) {
			wrong(t, with(r, func(r *api.Rec) { r.Co = n }), api.ErrRange)
			wrong(t, with(r, func(r *api.Rec) { r.Place = n }), api.ErrRange)
		}
		for _, n := range append(far, 101, 102) {
			wrong(t, with(r, func(r *api.Rec) { r.Epoch = n }), api.ErrRange)
		}
		right(t, r, laid(r))
	}
}

// P9.1: a Place where there is no offer, Says where there is no slice, an Image where there may be none, none where there must be one, Epoch 0.
func TestForms(t *testing.T) {
	for _, r := range sample() {
		if r.Kind != api.ROffer {
			wrong(t, with(r, func(r *api.Rec) { r.Place = 1 }), api.ErrForm)
			wrong(t, with(r, func(r *api.Rec) { r.Place = api.MaxPlaces - 1 }), api.ErrForm)
		}
		if r.Kind != api.RSlice {
			wrong(t, with(r, func(r *api.Rec) { r.Says = row(7) }), api.ErrForm)
			wrong(t, with(r, func(r *api.Rec) { r.Says = ones(api.MaxSays) }), api.ErrForm)
		}
		if len(r.Image) > 0 {
			wrong(t, with(r, func(r *api.Rec) { r.Image = nil }), api.ErrForm)
			wrong(t, with(r, func(r *api.Rec) { r.Image = row() }), api.ErrForm)
		} else {
			wrong(t, with(r, func(r *api.Rec) { r.Image = row(0) }), api.ErrForm)
			wrong(t, with(r, func(r *api.Rec) { r.Image = ones(api.MaxImage) }), api.ErrForm)
		}
		wrong(t, with(r, func(r *api.Rec) { r.Epoch = 0 }), api.ErrForm)
	}
	wrong(t, api.Rec{}, api.ErrForm)
}

// P9.1: of two errors the one that is told first is the answer: no kind, then what is out of range, then what is too many, then what isn't in form.
func TestWhichErrorFirst(t *testing.T) {
	type faults []func(r *api.Rec)
	levels := []struct {
		want api.Errno
		faults
	}{
		{api.ErrForm, faults{func(r *api.Rec) { r.Kind = 0 }, func(r *api.Rec) { r.Kind = 6 }}},
		{api.ErrRange, faults{
			func(r *api.Rec) { r.Co = api.MaxCos },
			func(r *api.Rec) { r.Epoch = api.MaxEpoch + 1 },
			func(r *api.Rec) { r.Place = -1 },
		}},
		{api.ErrMany, faults{func(r *api.Rec) { r.Says = ones(api.MaxSays + 1) }, func(r *api.Rec) { r.Image = ones(api.MaxImage + 1) }}},
		{api.ErrForm, faults{
			func(r *api.Rec) { r.Place = 1 },
			func(r *api.Rec) { r.Says = row(7) },
			func(r *api.Rec) { r.Image = nil },
			func(r *api.Rec) { r.Epoch = 0 },
		}},
	}
	begin := sample()[0]
	for k, level := range levels {
		for _, first := range level.faults {
			wrong(t, with(begin, first), level.want)
			for _, later := range levels[k+1:] {
				for _, second := range later.faults {
					// The one told first is done last: some are of the same field.
					wrong(t, with(with(begin, second), first), level.want)
				}
			}
		}
	}
	for _, kind := range row(api.ROffer, api.RGone) {
		wrong(t, rec(kind, 1, 0, nil, ones(api.MaxImage+1)), api.ErrMany)
		wrong(t, rec(kind, 1, 0, ones(api.MaxSays+1), nil), api.ErrMany)
	}
}

// P9.2: texts with a blank too much or too few, or with something else there; P9.2 asks for no line feed.
func TestBlanks(t *testing.T) {
	for _, text := range []string{
		"", " ", "\n", " 5 0 1 0 0", "5 0 1 0 0 ", "5  0 1 0 0", "5 0 1 0  0", "50 1 0 0", "5 0 1 00", "5 0 100",
		"2 1 2 0 2 7 -8  1", "2 1 2 0 2  7 -8 1", "2 1 2 0 2 7 -8 1 ", " 2 1 2 0 2 7 -8 1", "2 1 2 0 2 7-8 1", "2 1 2 0 3 7 -81",
		"5 0 1 0 0\n", "5 0 1 0 0\r\n", "\n5 0 1 0 0", "5 0 1 0\n0", "5\t0 1 0 0", "5,0,1,0,0", "5\u00a00 1 0 0", "5\v0 1 0 0",
		"2 1 2 0 2 7 -8 1\n", "2 1 2 0 2 7 -8\n1", "\ufeff5 0 1 0 0", "5 0 1 0 0\x00", "5 0 1 0 0\n5 0 1 0 0",
		"Rec", "{5 0 1 0 [] []}", "x",
	} {
		refused(t, text, api.ErrText)
	}
}

// P9.2: {} is where a number is that isn't as strconv.Itoa writes it.
func TestNumbers(t *testing.T) {
	for _, n := range []string{
		"", "-", "+", "--1", "+0", "+1", "-0", "00", "01", "-01", "007", "1_0", "0x1", "0b1", "0o1", "1e0", "1.0", "1.", "x", "-x", "1-", "\u0661", "\uff11", "\u22121", "\xff",
		"9223372036854775808", "-9223372036854775809", "18446744073709551615", "18446744073709551616", strings.Repeat("9", 400), strings.Repeat("0", 400),
	} {
		for _, form := range []string{
			"{} 0 1 0 0", "5 {} 1 0 0", "5 0 {} 0 0", "5 0 1 {} 0", "5 0 1 0 {}", "2 0 1 0 {} 1",
			"2 0 1 0 1 {} 1", "2 0 1 0 1 1 {}", "2 0 1 0 2 1 {} 1", "2 0 1 0 0 {}", "2 0 1 0 0 1 {} 1", "5 0 1 0 0 {}",
			"9 9 999 9 {} 1", "9 {} 0 0 0",
		} {
			refused(t, strings.Replace(form, "{}", n, 1), api.ErrText)
		}
	}
}

// P9.2: too few numbers, or a count of Says that isn't theirs, below 0 or too great, whatever else is wrong; one that only reaches into the Image counts.
func TestCounts(t *testing.T) {
	for _, text := range []string{
		"5", "5 0", "5 0 1", "5 0 1 0", "1 0 1 0", "9", "9 9 9 9",
		"5 0 1 0 1", "5 0 1 0 -1", "5 0 1 0 2 1", "2 0 1 0 1", "2 0 1 0 3 7 8", "2 0 1 0 -1 7 8", "2 0 1 0 -2 7 8", "2 0 1 0 40 7 8",
		"9 9 9 9 1", "9 9 9 9 -1", "0 -1 -1 -1 3 0 0", "2 0 1 0 41 7", "2 0 1 0 1201 7",
		"2 0 1 0 9223372036854775807 7", "2 0 1 0 -9223372036854775808 7", "2 0 1 0 9223372036854775807", "2 0 1 0 9223372036854775802 1 1",
		"2 0 1 0 1241" + strings.Repeat(" 1", 1240),
	} {
		refused(t, text, api.ErrText)
	}
	for _, c := range []struct {
		text string
		want api.Errno
	}{
		{"2 0 1 0 2 7 8", api.ErrForm}, // both are said: there is no Image
		{"2 0 1 0 41" + strings.Repeat(" 1", 42), api.ErrMany},
		{"2 0 1 0 41" + strings.Repeat(" 1", 41), api.ErrMany},
		{"2 0 1 0 1240" + strings.Repeat(" 1", 1240), api.ErrMany},
		{"2 0 1 0 0" + strings.Repeat(" 1", 1201), api.ErrMany},
		{"1 0 1 0 1 7 8", api.ErrForm},
		{"5 0 1 0 1 7", api.ErrForm},
		{"5 0 1 0 0 1", api.ErrForm},
		{"6 3 101 3 0", api.ErrForm},
		{"5 3 0 0 0 1", api.ErrRange},
		{"9223372036854775807 0 1 0 0", api.ErrForm},
		{"-9223372036854775808 0 1 0 0", api.ErrForm},
		{"5 9223372036854775807 1 0 0", api.ErrRange},
		{"5 0 -9223372036854775808 0 0", api.ErrRange},
		{"3 0 1 9223372036854775807 0", api.ErrRange},
	} {
		refused(t, c.text, c.want)
	}
	right(t, rec(api.RSlice, 1, 0, row(7), row(8)), "2 0 1 0 1 7 8")
}

// P9.2: texts of api.MaxText bytes are read, and of those with one more nothing else is told.
func TestLongTexts(t *testing.T) {
	for _, c := range []struct {
		begin, again, end string
		want              api.Errno
	}{
		{"", "x", "x", api.ErrText},
		{"", " ", " ", api.ErrText},
		{"5 0 1 0 ", "0", "0", api.ErrText},
		{"2 0 1 0 99999", " 1", "1", api.ErrText},
		{"2 0 1 0 0", " 1", "\n", api.ErrText},
		{"2 0 1 0 1", " 1", "1", api.ErrMany},
		{"2 0 1 0 0", " 1", "1", api.ErrMany},
		{"2 3 1 0 0", " 1", "1", api.ErrRange},
		{"6 0 1 0 0", " 1", "1", api.ErrForm},
	} {
		long := func(n int) string { return (c.begin + strings.Repeat(c.again, n))[:n-1] + c.end }
		refused(t, long(api.MaxText-1), c.want)
		refused(t, long(api.MaxText), c.want)
		refused(t, long(api.MaxText+1), api.ErrMany)
		refused(t, long(10*api.MaxText), api.ErrMany)
	}
}

// P9.1: records that are alike, and such that differ in one field; what fields have in them counts, not whether it may be.
func TestSame(t *testing.T) {
	l := append(sample(),
		api.Rec{},
		api.Rec{Kind: -1, Co: 99, Epoch: -7, Place: math.MaxInt, Says: ones(50), Image: ones(1300)},
		api.Rec{Kind: api.RSlice, Epoch: 2, Says: row(7), Image: row(-8, 1)},
		api.Rec{Kind: api.RSlice, Epoch: 2, Says: row(7, -8, 1)},
		api.Rec{Kind: api.RSlice, Epoch: 2, Image: row(7, -8, 1)},
	)
	for k, a := range l {
		for j, b := range l {
			b.Says, b.Image = slices.Clone(b.Says), slices.Clone(b.Image)
			if got := Same(a, b); got != (j == k) {
				t.Errorf("%+v, %+v: %t", a, b, got)
			}
		}
		for _, b := range []api.Rec{
			with(a, func(r *api.Rec) { r.Kind++ }),
			with(a, func(r *api.Rec) { r.Co++ }),
			with(a, func(r *api.Rec) { r.Epoch-- }),
			with(a, func(r *api.Rec) { r.Place-- }),
			with(a, func(r *api.Rec) { r.Says = append(slices.Clone(r.Says), 0) }),
			with(a, func(r *api.Rec) { r.Image = append(slices.Clone(r.Image), 0) }),
			with(a, func(r *api.Rec) { r.Says = append(row(9), r.Says...) }),
			with(a, func(r *api.Rec) { r.Image = append(row(9), r.Image...) }),
		} {
			if Same(a, b) || Same(b, a) {
				t.Errorf("%+v, %+v: the same", a, b)
			}
		}
		if len(a.Says) > 0 && Same(a, with(a, func(r *api.Rec) { r.Says = append(slices.Clone(r.Says[:len(r.Says)-1]), 9) })) {
			t.Errorf("%+v: the last of Says doesn't count", a)
		}
		if len(a.Image) > 0 && Same(a, with(a, func(r *api.Rec) { r.Image = append(slices.Clone(r.Image[:len(r.Image)-1]), 9) })) {
			t.Errorf("%+v: the last of Image doesn't count", a)
		}
	}
	if !Same(api.Rec{Kind: 7}, api.Rec{Kind: 7, Says: row(), Image: row()}) || !Same(api.Rec{Says: row()}, api.Rec{Image: row()}) {
		t.Error("nil and empty lists aren't alike")
	}
}
