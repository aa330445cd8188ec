package expcore

import (
	"math/bits"

	"ulp/api"
	"ulp/fixed"
	"ulp/nat"
)

// grown is e^a - 1 of an amount that is at most MaxArg, reckoned with w bits. The argument is halved so often that its series ends soon, and the power is squared as often.
//
// How often does not hang on a, and no step's ends fall as a rises: so the power's ends do not fall either, however near two amounts lie.
func grown(a api.Dyad, w int) fixed.Span {
	halvings := bits.Len(api.MaxArg) + rootBits(w)
	x := fixed.Span{Lo: a.Abs, Hi: a.Abs, Exp: a.Exp - halvings}.Cut(w)
	m := x.Times(slope(x, w)).Cut(w)
	for range halvings {
		m = squared(m, w)
	}
	return m
}

// rootBits is how small the argument of the series is made: a squaring takes some six times as long as a term.
func rootBits(w int) int {
	n := 1
	for 6*n*n < w {
		n++
	}
	return n
}

// squared is (m + 1)^2 - 1, as m^2 + 2 m: nothing is lost near 0.
func squared(m fixed.Span, w int) fixed.Span {
	lo := fixed.Shift(fixed.Times(m.Lo, m.Lo), m.Exp)
	hi := fixed.ShiftUp(fixed.Times(m.Hi, m.Hi), m.Exp)
	return fixed.Span{
		Lo:  fixed.Plus(lo, fixed.Shift(m.Lo, 1)),
		Hi:  fixed.Plus(hi, fixed.Shift(m.Hi, 1)),
		Exp: m.Exp,
	}.Cut(w)
}

// slope is (e^x - 1) / x, 1 where x is 0; x is at most 1/2, and its ends are at most a unit of 2^-w apart.
func slope(x fixed.Span, w int) fixed.Span {
	var sum api.Nat
	var units uint64
	terms(fixed.Shift(x.Lo, x.Exp+w), w)(func(term api.Nat) bool {
		sum = fixed.Plus(sum, term)
		// A term is less than 4 units too small if the one ahead of it is: this makes less than 2 of them, since x is at most 1/2; x, 2 more; rounding the product, 1; all that is halved at least, and rounded again. So is the first that is told as 0, and all behind it together are less than half of it.
		units += 4
		return len(term) > 0
	})
	return fixed.Span{Lo: sum, Hi: fixed.Plus(sum, nat.Of(units+2)), Exp: -w}
}

// terms are 1, x / 2, x^2 / 6 and so on, one by one, as long as they are asked for; all in units of 2^-w, rounded down.
func terms(x api.Nat, w int) func(more func(term api.Nat) bool) {
	return func(more func(term api.Nat) bool) {
		term := fixed.One(w)
		for n := uint64(2); more(term); n++ {
			term = fixed.Over(fixed.Shift(fixed.Times(term, x), -w), nat.Of(n))
		}
	}
}
