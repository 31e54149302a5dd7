// Package numbers: rows of numbers as texts, as programs and records are written.
package numbers

import (
	"strconv"
	"strings"
)

// Add: text with a row of numbers behind it, a blank between each two. It is appended, as append does.
func Add(text []byte, row ...int) []byte {
	for k, n := range row {
		if k > 0 {
			text = append(text, ' ')
		}
		text = strconv.AppendInt(text, int64(n), 10)
	}
	return text
}

// Read: the row of a text; none of one that Add doesn't write.
func Read(text string) []int {
	var row []int
	for _, word := range strings.Split(text, " ") {
		n, err := strconv.Atoi(word)
		// Atoi takes signs and zeros that Itoa doesn't write.
		if err != nil || strconv.Itoa(n) != word {
			return nil
		}
		row = append(row, n)
	}
	return row
}
