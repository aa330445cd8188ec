// Package sixteen writes words of 64 bits in sixteen hexadecimal digits, 0 to 9 and a to f, and reads them.
package sixteen

import (
	"strconv"
	"strings"
)

const (
	base     = 16
	wordBits = 64
	digits   = wordBits / 4
)

// Show writes a word, with noughts ahead.
func Show(x uint64) string {
	few := strconv.FormatUint(x, base)
	return strings.Repeat("0", digits-len(few)) + few
}

// Read is the word that is written so; none, if s is no such text. It is written again: so capitals are none, nor are more digits or fewer.
func Read(s string) (uint64, bool) {
	x, err := strconv.ParseUint(s, base, wordBits)
	if err != nil || Show(x) != s {
		return 0, false
	}
	return x, true
}
