package record

import (
	"math"
	"math/big"
	"math/rand/v2"
	"reflect"
	"regexp"
	"slices"
	"strconv"
	"strings"
	"testing"

	"wanderer/api"
)

// firstFault: what Check is to answer: the promise's faults in its order.
func firstFault(r api.Rec) api.Errno {
	slice, offer := r.Kind == api.RSlice, r.Kind == api.ROffer
	for _, f := range []struct {
		is  bool
		err api.Errno
	}{
		{!slices.Contains(row(api.RBegin, api.RSlice, api.ROffer, api.RTake, api.RGone), r.Kind), api.ErrForm},
		{r.Co < 0 || r.Co >= api.MaxCos, api.ErrRange},
		{r.Epoch < 0 || r.Epoch > api.MaxEpoch, api.ErrRange},
		{r.Place < 0 || r.Place >= api.MaxPlaces, api.ErrRange},
		{len(r.Says) > api.MaxSays, api.ErrMany},
		{len(r.Image) > api.MaxImage, api.ErrMany},
		{r.Place != 0 && !offer, api.ErrForm},
		{len(r.Says) != 0 && !slice, api.ErrForm},
		{len(r.Image) == 0 && (r.Kind == api.RBegin || slice || r.Kind == api.RTake), api.ErrForm},
		{len(r.Image) != 0 && (offer || r.Kind == api.RGone), api.ErrForm},
		{r.Epoch == 0, api.ErrForm},
	} {
		if f.is {
			return f.err
		}
	}
	return api.OK
}

var row5 = regexp.MustCompile(`^(0|-?[1-9][0-9]*)( (0|-?[1-9][0-9]*)){4,}$`)

// reckoned: what Parse is to answer, by a grammar and numbers of any length.
func reckoned(text string) (api.Rec, api.Errno) {
	if len(text) > api.MaxText {
		return api.Rec{}, api.ErrMany
	}
	if !row5.MatchString(text) {
		return api.Rec{}, api.ErrText
	}
	var l []int
	for _, word := range strings.Fields(text) {
		n, ok := new(big.Int).SetString(word, 10)
		if !ok || !n.IsInt64() {
			return api.Rec{}, api.ErrText
		}
		l = append(l, int(n.Int64()))
	}
	head, l := l[:5], l[5:]
	if head[4] < 0 || head[4] > len(l) {
		return api.Rec{}, api.ErrText
	}
	r := api.Rec{Kind: head[0], Co: head[1], Epoch: head[2], Place: head[3], Says: l[:head[4]], Image: l[head[4]:]}
	if err := firstFault(r); err != api.OK {
		return api.Rec{}, err
	}
	return r, api.OK
}

// agrees: Parse answers what is reckoned, and what it reads is printed as the text again.
func agrees(t *testing.T, text string) api.Errno {
	t.Helper()
	want, wantErr := reckoned(text)
	r, err := Parse(text)
	if err != wantErr || !alike(r, want) || err != api.OK && !reflect.DeepEqual(r, api.Rec{}) {
		t.Fatalf("Parse of %q: %+v, %d, want %+v, %d", text, r, err, want, wantErr)
	}
	if err == api.OK {
		if again, err := Print(r); again != text || err != api.OK {
			t.Fatalf("printed again: %q, %d, want %q", again, err, text)
		}
	}
	return err
}

// often: each of these errors came so often at least.
func often(t *testing.T, seen map[api.Errno]int, least int, errors ...api.Errno) {
	t.Helper()
	for _, err := range errors {
		if seen[err] < least {
			t.Errorf("error %d came %d times", err, seen[err])
		}
	}
}

// P9.1, P9.2, P9.3: any fields with any others, at their edges and past them.
func TestAllFields(t *testing.T) {
	seen := map[api.Errno]int{}
	try := func(r api.Rec) {
		want := firstFault(r)
		seen[want]++
		if want != api.OK {
			wrong(t, r, want)
			return
		}
		right(t, r, laid(r))
	}
	for _, kind := range row(math.MinInt, -1, 0, 1, 2, 3, 4, 5, 6, math.MaxInt) {
		for _, co := range row(-1, 0, 2, 3) {
			for _, epoch := range row(-1, 0, 1, 100, 101) {
				for _, place := range row(-1, 0, 1, 2, 3) {
					for _, says := range row(0, 1, 40, 41) {
						for _, image := range row(0, 1, 1200, 1201) {
							try(api.Rec{Kind: kind, Co: co, Epoch: epoch, Place: place, Says: ones(says), Image: ones(image)})
						}
					}
				}
			}
		}
	}
	often(t, seen, 50, api.OK, api.ErrForm, api.ErrRange, api.ErrMany)
}

// maker: random records.
type maker struct{ *rand.Rand }

// number: near 0, at the limits, or any.
func (w maker) number() int {
	switch w.IntN(4) {
	case 0:
		return w.IntN(7) - 3
	case 1:
		return []int{math.MinInt, math.MaxInt, api.MaxValue, -api.MaxValue, 10, -10, 99, 100}[w.IntN(8)]
	case 2:
		return int(w.Uint64()) >> w.IntN(64)
	}
	return w.IntN(200) - 100
}

func (w maker) row(n int) (l []int) {
	for range n {
		l = append(l, w.number())
	}
	return l
}

// length: a short one mostly, now and then the most.
func (w maker) length(least, most int) int {
	switch w.IntN(20) {
	case 0:
		return most
	case 1:
		return least + w.IntN(most-least+1)
	}
	return least + w.IntN(5)
}

// record: a right one of any kind.
func (w maker) record() api.Rec {
	r := api.Rec{Kind: api.RBegin + w.IntN(5), Co: w.IntN(api.MaxCos), Epoch: 1 + w.IntN(api.MaxEpoch)}
	switch r.Kind {
	case api.ROffer:
		r.Place = w.IntN(api.MaxPlaces)
		return r
	case api.RGone:
		return r
	case api.RSlice:
		r.Says = w.row(w.length(0, api.MaxSays))
	}
	r.Image = w.row(w.length(1, api.MaxImage))
	return r
}

// P9.3: random records are printed as they are written, and that is read as they are; no two of them that are unlike have the same text.
func TestRandomRecords(t *testing.T) {
	w := maker{rand.New(rand.NewPCG(9, 1))}
	texts := map[string]api.Rec{}
	for range 20000 {
		r := w.record()
		right(t, r, laid(r))
		text, _ := Print(r)
		if other, ok := texts[text]; ok && !Same(r, other) {
			t.Errorf("%+v, %+v: both are %q", r, other, text)
		}
		texts[text] = r
	}
}

// P9.2, P9.3: texts of records in which one byte is another one, is left out, or put in.
func TestOneByte(t *testing.T) {
	w := maker{rand.New(rand.NewPCG(9, 2))}
	const bytes = "0123456789- \n+x\x00"
	seen := map[api.Errno]int{}
	for range 300 {
		r := w.record()
		r.Says, r.Image = r.Says[:min(len(r.Says), 4)], r.Image[:min(len(r.Image), 4)]
		text := laid(r)
		for k := range len(text) + 1 {
			for _, b := range bytes {
				seen[agrees(t, text[:k]+string(b)+text[k:])]++
				if k < len(text) {
					seen[agrees(t, text[:k]+string(b)+text[k+1:])]++
				}
			}
			if k < len(text) {
				seen[agrees(t, text[:k]+text[k+1:])]++
				seen[agrees(t, text[:k])]++
			}
		}
	}
	often(t, seen, 500, api.OK, api.ErrText, api.ErrForm, api.ErrRange)
}

// P9.2: rows in which numbers are changed, left out, put in, or count what isn't there.
func TestRandomRows(t *testing.T) {
	w := maker{rand.New(rand.NewPCG(9, 3))}
	seen := map[api.Errno]int{}
	for range 30000 {
		words := strings.Split(laid(w.record()), " ")
		for range w.IntN(4) {
			k := w.IntN(min(len(words), 8))
			n := strconv.Itoa(w.number())
			switch w.IntN(4) {
			case 0:
				words = slices.Insert(words, k, n)
			case 1:
				words = append(slices.Delete(words, k, k+1), n)[:max(1, len(words)-1)]
			case 2:
				words[k] = n
			case 3:
				words = append(words, slices.Repeat([]string{n}, w.length(1, 50))...)
			}
		}
		seen[agrees(t, strings.Join(words, " "))]++
	}
	often(t, seen, 100, api.OK, api.ErrText, api.ErrForm, api.ErrRange, api.ErrMany)
}

// P9.2, P1: texts of any pieces.
func TestAnyPieces(t *testing.T) {
	w := maker{rand.New(rand.NewPCG(9, 4))}
	pieces := []string{"0 ", "0 ", "1 ", "1 ", "2 ", "3 ", "5 ", "-9 ", "101 ", "0", " ", "-", "\n"}
	seen := map[api.Errno]int{}
	for range 200000 {
		text := ""
		for range w.IntN(10) {
			text += pieces[w.IntN(w.IntN(len(pieces))+1)]
		}
		if w.IntN(5) > 0 {
			text = strings.TrimSuffix(text, " ")
		}
		seen[agrees(t, text)]++
	}
	often(t, seen, 1000, api.ErrText, api.ErrForm)
	often(t, seen, 50, api.OK, api.ErrRange)
}

// roomy: a copy of l with something in the spare room behind it.
func roomy(l []int) []int {
	return append(slices.Clone(l), 77, 78)[:len(l)]
}

// whole: both lists of a record, with the room behind them.
func whole(r api.Rec) [][]int {
	return [][]int{slices.Clone(r.Says[:cap(r.Says)]), slices.Clone(r.Image[:cap(r.Image)])}
}

// P2: what is handed in is only read; the lists of what is answered share no memory, and none with another answer.
func TestMemory(t *testing.T) {
	w := maker{rand.New(rand.NewPCG(9, 5))}
	for range 3000 {
		r := w.record()
		r.Says, r.Image = roomy(r.Says), roomy(r.Image)
		other := with(r, func(r *api.Rec) { r.Says, r.Image = roomy(r.Says), roomy(r.Image) })
		had := [][][]int{whole(r), whole(other)}
		text, _ := Print(r)
		Check(r)
		Same(r, other)
		if now := [][][]int{whole(r), whole(other)}; !reflect.DeepEqual(now, had) {
			t.Fatalf("what was handed in was changed: %v, it was %v", now, had)
		}
		first, _ := Parse(text)
		again, _ := Parse(text)
		said, image := first.Says[:cap(first.Says)], first.Image[:cap(first.Image)]
		for k := range said {
			said[k] = 55
		}
		if !slices.Equal(first.Image, r.Image) {
			t.Fatalf("the lists of a record share memory: %+v, of %q", first, text)
		}
		for k := range image {
			image[k] = 56
		}
		if slices.Contains(said, 56) || !alike(again, r) {
			t.Fatalf("answers share memory: %+v, of %q", again, text)
		}
	}
}
