package expcore

import (
	"math/bits"

	"ulp/api"
	"ulp/fixed"
	"ulp/nat"
)

// grown is e^a - 1 of an amount that is at most MaxArg, reckoned with w bits. The argument is halved so often that its series ends soon, and the power is squared as often.
//
// How often does not hang on a. Each end goes its own way, by steps of which none falls as a rises: so neither end falls, however near two amounts lie.
func grown(a api.Dyad, w int) fixed.Span {
	halvings := bits.Len(api.MaxArg) + rootBits(w)
	x := fixed.Of(a).Scale(-halvings)
	steep := slope(x, w)
	return fixed.Between(func(up bool) fixed.Number {
		m := x.Cut(w, up).Times(steep.End(up), w, up)
		for range halvings {
			m = squared(m, w, up)
		}
		return m
	})
}

// rootBits is how small the argument of the series is made: a squaring takes some six times as long as a term.
func rootBits(w int) int {
	n := 1
	for 6*n*n < w {
		n++
	}
	return n
}

// squared is (m + 1)^2 - 1, as m (m + 2): nothing is lost near 0.
func squared(m fixed.Number, w int, up bool) fixed.Number {
	return m.Times(m.Plus(fixed.Whole(2), w, up), w, up)
}

// slope is (e^x - 1) / x, 1 where x is 0; x is at most 1/2.
func slope(x fixed.Number, w int) fixed.Span {
	var sum api.Nat
	var units uint64
	terms(x.Units(w, false), w)(func(term api.Nat) bool {
		sum = fixed.Plus(sum, term)
		// A term is less than 4 units too small if the one ahead of it is: this makes less than 2 of them, since x is at most 1/2; x, 1 more; rounding the product, 1; all that is halved at least, and rounded again. So is the first that is told as 0, and all behind it together are less than half of it.
		units += 4
		return len(term) > 0
	})
	return fixed.Units(sum, fixed.Plus(sum, nat.Of(units+2)), w)
}

// terms are 1, x / 2, x^2 / 6 and so on, one by one, as long as they are asked for; all in units of 2^-w, rounded down.
func terms(x api.Nat, w int) func(more func(term api.Nat) bool) {
	return func(more func(term api.Nat) bool) {
		term := fixed.One(w)
		for n := uint64(2); more(term); n++ {
			term = fixed.Over(fixed.Shift(fixed.Times(term, x), -w), nat.Of(n))
		}
	}
}
