package numbers

import (
	"math"
	"slices"
	"strconv"
	"strings"
	"testing"
)

// Rows of one number and of several, near and far, are written with a blank between each two, and read again.
func TestRows(t *testing.T) {
	for _, c := range []struct {
		text string
		row  []int
	}{
		{"0", []int{0}},
		{"-1", []int{-1}},
		{"10 0 -10", []int{10, 0, -10}},
		{"7 7 7 7", []int{7, 7, 7, 7}},
		{strconv.Itoa(math.MinInt) + " " + strconv.Itoa(math.MaxInt), []int{math.MinInt, math.MaxInt}},
	} {
		if got := string(Add(nil, c.row...)); got != c.text {
			t.Errorf("%v: %q, want %q", c.row, got, c.text)
		}
		if got := Read(c.text); !slices.Equal(got, c.row) {
			t.Errorf("%q: %v, want %v", c.text, got, c.row)
		}
	}
}

// A row goes behind what the text has; a row without numbers adds nothing.
func TestBehind(t *testing.T) {
	if got := string(Add([]byte("1 2\n"), 3, 4)); got != "1 2\n3 4" {
		t.Errorf("%q", got)
	}
	if got := string(Add([]byte("1"))); got != "1" {
		t.Errorf("no number: %q", got)
	}
}

// No row is read of a text that isn't written so, wherever the fault is.
func TestWrongTexts(t *testing.T) {
	for _, word := range []string{
		"", " ", "-", "+1", "-0", "00", "01", "-01", "1_0", "0x1", "1.0", "1e1", "x", "1\n", "\t1", "1,1", "\u0661", "\xff",
		"9223372036854775808", "-9223372036854775809", strings.Repeat("9", 99),
	} {
		for _, text := range []string{word, word + " 1", "1 " + word, "1 " + word + " 1"} {
			if got := Read(text); got != nil {
				t.Errorf("%q: %v", text, got)
			}
		}
	}
}
