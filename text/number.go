package text

import (
	"ulp/api"
	"ulp/nat"
	"ulp/round"
)

// number is what a text's digits say: those as a whole number, times the base to the power of exp; the base is 2, if isBinary, else 10.
type number struct {
	isBinary bool
	digits   []byte // their values, the first one not 0
	places   int    // how many digits stand behind the point
	exp      int
	expNeg   bool // the exponent has - ahead
}

// farExponent is one that no digits of a text make up for.
const farExponent = 1 << 20

func (n *number) nothing(rune) {}

func (n *number) digit(r rune) {
	if d := worth(r); d > 0 || len(n.digits) > 0 {
		n.digits = append(n.digits, d)
	}
}

func (n *number) fraction(r rune) {
	n.digit(r)
	n.places++
}

func (n *number) binary(rune) { n.isBinary = true }

func (n *number) sign(r rune) { n.expNeg = r == '-' }

// exponent takes a digit of the exponent. One that is far is far enough, however many follow.
func (n *number) exponent(r rune) {
	if n.exp < farExponent {
		n.exp = n.exp*10 + int(worth(r))
	}
}

// settled is the number when its text has been read: with the sign of the exponent and the digits behind the point in exp.
func (n number) settled() number {
	if n.expNeg {
		n.exp = -n.exp
	}
	if n.isBinary {
		n.places *= digitBits
	}
	return number{isBinary: n.isBinary, digits: n.digits, exp: n.exp - n.places}
}

// rounded is the nearest binary64.
func (n number) rounded(neg bool) (api.Result, api.Errno) {
	var d api.Dyad
	switch {
	case len(n.digits) > 0 && n.isBinary:
		d = n.binaryValue()
	case len(n.digits) > 0:
		d = n.decimalValue()
	case neg:
		return api.Result{Bits: signBit}, api.OK
	}
	d.Neg = neg
	return round.Near(d)
}

const (
	digitBits = 4  // of a hexadecimal digit
	wordSize  = 16 // hexadecimal digits of a word

	// 10^farTens and 2^farBits are greater, 1 divided by them is smaller than all that matters in binary64.
	farTens = 400
	farBits = 2000
)

// within is an exponent brought near enough to be reckoned with: the number, of so many places ahead of that, stays too great or too small.
func within(exp, places, far int) int { return min(max(exp, -far-places), far-places) }

func (n number) binaryValue() api.Dyad {
	abs := make(api.Nat, (len(n.digits)+wordSize-1)/wordSize)
	for i, d := range n.digits {
		at := len(n.digits) - 1 - i
		abs[at/wordSize] |= uint64(d) << (at % wordSize * digitBits)
	}
	return api.Dyad{Abs: abs, Exp: within(n.exp, len(n.digits)*digitBits, farBits)}
}

// decimalValue is a dyadic number that is rounded as the number is. 10 to any power is 5 to it, times a power of 2.
func (n number) decimalValue() api.Dyad {
	digits := make([]byte, len(n.digits))
	for i, d := range n.digits {
		digits[i] = '0' + d
	}
	a, _, _ := nat.Parse(string(digits))
	exp := within(n.exp, len(digits), farTens)
	fives, _ := nat.Pow(nat.Of(5), max(exp, -exp))
	if exp >= 0 {
		a, _ = nat.Mul(a, fives)
		return api.Dyad{Abs: a, Exp: exp}
	}
	d := quotient(a, fives)
	d.Exp += exp
	return d
}

// quotientBits is how many bits of a quotient are told at least: more than a point of change has, 54 at most.
const quotientBits = 64

// quotient is a dyadic number that is rounded as a / b is: cut to so many bits that it lies on no other side of a point of change, with a sticky bit behind them for all that follows.
func quotient(a, b api.Nat) api.Dyad {
	aBits, _ := nat.Len(a)
	bBits, _ := nat.Len(b)
	shift := max(0, bBits-aBits+quotientBits)
	dividend, _ := nat.Shl(a, shift)
	whole, rest, _ := nat.Div(dividend, b)
	abs, _ := nat.Shl(whole, 1)
	if len(rest) > 0 {
		abs[0] |= 1
	}
	return api.Dyad{Abs: abs, Exp: -shift - 1}
}
