package tables

import (
	"strconv"
	"strings"

	"ulp/api"
	"ulp/dyad"
)

const (
	wordBits   = 64
	wordDigits = wordBits / 4
)

// lineOf is the text of a number in its one form, with an LF.
func lineOf(d api.Dyad) string {
	sign := ""
	if d.Neg {
		sign = "-"
	}
	return sign + "0x" + digitsOf(d.Abs) + "p" + strconv.Itoa(d.Exp) + "\n"
}

// digitsOf are the hexadecimal digits of a natural without a word 0 at its end.
func digitsOf(a api.Nat) string {
	if len(a) == 0 {
		return "0"
	}
	var text strings.Builder
	for i := range a {
		digits := strconv.FormatUint(a[len(a)-1-i], 16)
		if i > 0 { // noughts stand ahead of all words but the first
			text.WriteString(strings.Repeat("0", wordDigits-len(digits)))
		}
		text.WriteString(digits)
	}
	return text.String()
}

// numberOf is the number whose line that is, if there is one. It is read by what it may be made of, and written again: so there is but one line of a number.
func numberOf(line string) (api.Dyad, bool) {
	rest, neg := strings.CutPrefix(line, "-")
	rest, _ = strings.CutPrefix(rest, "0x")
	rest, _ = strings.CutSuffix(rest, "\n")
	digits, exponent, _ := strings.Cut(rest, "p")
	abs, is := wordsOf(digits)
	exp, err := strconv.Atoi(exponent)
	if !is || err != nil {
		return api.Dyad{}, false
	}
	d, why := dyad.Canon(api.Dyad{Neg: neg, Abs: abs, Exp: exp})
	if why != api.OK || lineOf(d) != line {
		return api.Dyad{}, false
	}
	return d, true
}

// wordsOf is the natural of hexadecimal digits, if it is not too great.
func wordsOf(digits string) (api.Nat, bool) {
	if len(digits) > api.MaxLimbs*wordDigits {
		return nil, false
	}
	var a api.Nat
	for end := len(digits); end > 0; end -= wordDigits {
		w, err := strconv.ParseUint(digits[max(0, end-wordDigits):end], 16, wordBits)
		if err != nil {
			return nil, false
		}
		a = append(a, w)
	}
	return a, true
}
