package text

import (
	"strings"

	"ulp/api"
)

// place is how far a text is read: what stands ahead of it says how it may go on.
type place int

const (
	begin    place = iota
	nought         // one 0: it may be that of 0x
	whole          // digits, no point yet
	bare           // a point without a digit
	part           // digits and a point
	hexBegin       // 0x
	hexWhole
	hexBare
	hexPart
	mark   // e or p
	signed // and a sign
	power  // and digits
	placeCount
)

// ends are the places where a text may end.
var ends = [placeCount]bool{nought: true, whole: true, part: true, power: true}

// way leads on from a place: over which runes, what is kept of them, and where to.
type way struct {
	over func(r rune) bool
	keep func(n *number, r rune)
	to   place
}

// ways are those that lead on from each place. Of those that lead over a rune the first is gone.
func ways() [placeCount][]way {
	isPoint, isE, isP := only('.'), only('e'), only('p')
	digit, fraction, exponent, nothing := (*number).digit, (*number).fraction, (*number).exponent, (*number).nothing
	return [placeCount][]way{
		begin:    {{only('0'), digit, nought}, {isDecimal, digit, whole}, {isPoint, nothing, bare}},
		nought:   {{only('x'), (*number).binary, hexBegin}, {isDecimal, digit, whole}, {isPoint, nothing, part}, {isE, nothing, mark}},
		whole:    {{isDecimal, digit, whole}, {isPoint, nothing, part}, {isE, nothing, mark}},
		bare:     {{isDecimal, fraction, part}},
		part:     {{isDecimal, fraction, part}, {isE, nothing, mark}},
		hexBegin: {{isHexadecimal, digit, hexWhole}, {isPoint, nothing, hexBare}},
		hexWhole: {{isHexadecimal, digit, hexWhole}, {isPoint, nothing, hexPart}, {isP, nothing, mark}},
		hexBare:  {{isHexadecimal, fraction, hexPart}},
		hexPart:  {{isHexadecimal, fraction, hexPart}, {isP, nothing, mark}},
		mark:     {{isSign, (*number).sign, signed}, {isDecimal, exponent, power}},
		signed:   {{isDecimal, exponent, power}},
		power:    {{isDecimal, exponent, power}},
	}
}

// read is what a text without a sign ahead says, if it is a number's and has digits.
func read(text string) (number, bool) {
	var n number
	at, table := begin, ways()
	for _, r := range text {
		next, is := wayOver(table[at], r)
		if !is {
			return number{}, false
		}
		next.keep(&n, r)
		at = next.to
	}
	if !ends[at] {
		return number{}, false
	}
	return n.settled(), true
}

func wayOver(list []way, r rune) (way, bool) {
	for _, w := range list {
		if w.over(r) {
			return w, true
		}
	}
	return way{}, false
}

// words are the texts without digits, and what they say.
var words = [...]struct {
	text string
	bits uint64
}{{"inf", infinity}, {"infinity", infinity}, {"nan", noNumber}}

const (
	infinity uint64 = 0x7ff0000000000000
	noNumber uint64 = 0x7ff8000000000000
	signBit  uint64 = 1 << 63
)

// spelled is what a text without digits says, if it is one.
func spelled(neg bool, text string) (api.Result, bool) {
	for _, w := range words {
		if !isSpelled(text, w.text) {
			continue
		}
		if neg && w.bits == infinity {
			return api.Result{Bits: w.bits | signBit}, true
		}
		return api.Result{Bits: w.bits}, true
	}
	return api.Result{}, false
}

// isSpelled tells whether a text is a word of small letters, in letters of either case. The word's runes are of one byte each: so a rune of the text stands where the word's does.
func isSpelled(text, word string) bool {
	read := 0
	for i, r := range text {
		if i >= len(word) || small(r) != rune(word[i]) {
			return false
		}
		read++
	}
	return read == len(word)
}

func cutSign(s string) (neg bool, rest string) {
	if rest, neg = strings.CutPrefix(s, "-"); neg {
		return true, rest
	}
	return false, strings.TrimPrefix(s, "+")
}

// isWhole tells whether a text has decimal digits, and nothing else.
func isWhole(text string) bool {
	for _, r := range text {
		if !isDecimal(r) {
			return false
		}
	}
	return text != ""
}

func isSign(r rune) bool { return r == '+' || r == '-' }

func isDecimal(r rune) bool { return worth(r) < 10 }

func isHexadecimal(r rune) bool { return worth(r) < 16 }

// only tells one rune from all others; of a letter, that in either case.
func only(want rune) func(rune) bool { return func(r rune) bool { return small(r) == want } }

// worth is the value of a hexadecimal digit; more than any digit's of another rune.
func worth(r rune) byte {
	switch r = small(r); {
	case r >= '0' && r <= '9':
		return byte(r - '0')
	case r >= 'a' && r <= 'f':
		return byte(r-'a') + 10
	default:
		return 16
	}
}

// small is the small letter of a capital one from A to Z. Letters of other scripts that Unicode folds to these are no part of a number's text.
func small(r rune) rune {
	if r >= 'A' && r <= 'Z' {
		return r - 'A' + 'a'
	}
	return r
}
