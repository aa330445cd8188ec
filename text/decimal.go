package text

import (
	"strconv"
	"strings"

	"ulp/api"
	"ulp/nat"
)

// decimal is a number above 0: its digits, the first one not 0, and the exponent of 10 at which this one stands.
type decimal struct {
	digits string
	exp    int
}

// decimalOf are all digits of a dyadic number above 0. One of 2^-n has n places behind the point: it is 5^n of 10^-n.
func decimalOf(d api.Dyad) decimal {
	places := max(0, -d.Exp)
	fives, _ := nat.Pow(nat.Of(5), places)
	a, _ := nat.Mul(d.Abs, fives)
	a, _ = nat.Shl(a, max(0, d.Exp))
	digits, _ := nat.Text(a)
	return decimal{digits, len(digits) - 1 - places}
}

// scientific is the text of the digits and their exponent.
func (d decimal) scientific() string {
	text := d.digits[:1]
	if len(d.digits) > 1 {
		text += "." + d.digits[1:]
	}
	return text + "e" + strconv.Itoa(d.exp)
}

// plain is the text of all digits without an exponent. There are as many as the whole part has, at least, if there is a whole part.
func (d decimal) plain() string {
	if d.exp < 0 {
		return "0." + strings.Repeat("0", -d.exp-1) + d.digits
	}
	ahead, behind := d.digits[:d.exp+1], d.digits[d.exp+1:]
	if behind == "" {
		return ahead
	}
	return ahead + "." + behind
}

// toDigits is the number rounded to n digits, of two at one distance to the even one.
func (d decimal) toDigits(n int) decimal {
	if len(d.digits) <= n {
		return decimal{d.digits + strings.Repeat("0", n-len(d.digits)), d.exp}
	}
	kept := decimal{d.digits[:n], d.exp}
	if isUp(kept.digits, d.digits[n:]) {
		return kept.next()
	}
	return kept
}

// isUp tells whether digits are rounded up for what stands behind them.
func isUp(kept, behind string) bool {
	if half := "5" + strings.Repeat("0", len(behind)-1); behind != half {
		return behind > half
	}
	return (kept[len(kept)-1]-'0')%2 == 1
}

// next is the next number of as many digits. Where all are 9 that is 1 and noughts, a place further ahead.
func (d decimal) next() decimal {
	up := strings.TrimRight(d.digits, "9")
	nines := len(d.digits) - len(up)
	if up == "" {
		return decimal{"1" + strings.Repeat("0", nines-1), d.exp + 1}
	}
	last := len(up) - 1
	return decimal{up[:last] + string(up[last]+1) + strings.Repeat("0", nines), d.exp}
}
