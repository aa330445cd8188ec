package reduce

import (
	"ulp/api"
	"ulp/fixed"
	"ulp/nat"
)

// nearest is the whole number next to d, and what d is more or less. Exponents have no bounds here: of a whole number that has no room its lowest bits, and what is left, are still told.
func nearest(d api.Dyad) (whole, rest api.Dyad) {
	if d.Exp >= 0 {
		return d, api.Dyad{}
	}
	below, up := roundedDown(d.Abs, -d.Exp)
	part := fixed.Less(d.Abs, fixed.Shift(below, -d.Exp))
	if up {
		below, part = fixed.Plus(below, nat.Of(1)), fixed.Less(fixed.One(-d.Exp), part)
	}
	return api.Dyad{Neg: d.Neg, Abs: below}, api.Dyad{Neg: d.Neg != up, Abs: part, Exp: d.Exp}
}

// roundedDown is a natural divided by 2^n, n above 0, rounded down; up: the next natural is nearer, or as near and even.
func roundedDown(a api.Nat, n int) (below api.Nat, up bool) {
	below = fixed.Shift(a, -n)
	half, _ := nat.Bit(a, n-1)
	_, more, _ := nat.Shr(a, n-1)
	odd, _ := nat.Bit(below, 0)
	return below, half && (more || odd)
}

// byFour is what is left when the greatest multiple of 4 is taken away that is not above a whole number.
func byFour(whole api.Dyad) int {
	var digits [2]int
	for place := range digits {
		// (Below the exponent nothing is set: nat refuses to look there.)
		if set, _ := nat.Bit(whole.Abs, place-whole.Exp); set {
			digits[place] = 1
		}
	}
	left := digits[0] + 2*digits[1]
	if whole.Neg {
		return (4 - left) % 4
	}
	return left
}
