package nat

import (
	"strconv"
	"strings"

	"ulp/api"
)

const (
	chunkDigits = 19 // as many decimal digits as any word has room for
	chunk       = 10_000_000_000_000_000_000
)

// Text is the number's decimal digits.
func Text(a api.Nat) (string, api.Errno) {
	x := trim(a)
	if tooGreat(x) {
		return "", api.ErrMany
	}
	chunks := x.chunks()
	var digits strings.Builder
	for i := len(chunks) - 1; i >= 0; i-- {
		part := strconv.FormatUint(chunks[i], 10)
		if i < len(chunks)-1 {
			digits.WriteString(strings.Repeat("0", chunkDigits-len(part)))
		}
		digits.WriteString(part)
	}
	return digits.String(), api.OK
}

// chunks are the digits, nineteen to a word, the lowest first; the last word has the digits that are left, one at least.
func (a words) chunks() []uint64 {
	var list []uint64
	left := a.copied()
	for len(left) > 1 {
		list = append(list, left.divideBy(chunk))
		left = trim(left)
	}
	return append(list, left.at(0))
}

// Parse is the number whose decimal digits a text is; with ErrNumber, the place where it ceases to be any number's.
func Parse(s string) (api.Nat, api.Errno, int) {
	if len(s) > api.MaxText {
		return nil, api.ErrLong, 0
	}
	if at := misfit(s); at >= 0 {
		return nil, api.ErrNumber, at
	}
	var x words
	for i := 0; i < len(s); i += chunkDigits {
		part := s[i:min(i+chunkDigits, len(s))]
		x = x.withDigits(part)
	}
	number, why := answer(x)
	return number, why, 0
}

// misfit is the first byte with which no number's text goes on, -1 if there is none.
func misfit(s string) int {
	if s == "" {
		return 0
	}
	for i := range len(s) {
		if s[i] < '0' || s[i] > '9' || i == 1 && s[0] == '0' {
			return i
		}
	}
	return -1
}

// withDigits is the number with some digits, no more than a word has room for, written behind it.
func (a words) withDigits(digits string) words {
	shift, value := uint64(1), uint64(0)
	for i := range len(digits) {
		shift *= 10
		value = value*10 + uint64(digits[i]-'0')
	}
	return trim(trim(a.times(word(shift))).plus(word(value)))
}
