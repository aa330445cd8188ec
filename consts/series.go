package consts

import (
	"ulp/api"
	"ulp/fixed"
	"ulp/nat"
)

// seriesKind is what the terms of a series are.
type seriesKind uint8

const (
	circular   seriesKind = iota // of the arctangent of 1 / at: 1 / at - 1 / (3 at^3) + 1 / (5 at^5) ..
	hyperbolic                   // of the hyperbola's: the same, all added
	factorials                   // what 1 divided by each factorial is, from that of 0 on; at is no matter
)

// part is a series, so many times, added or taken off.
type part struct {
	kind      seriesKind
	times, at uint64
	off       bool
}

// recipe is what a constant is made of: what 1 divided by another one is, or a sum of series.
type recipe struct {
	over  api.ConstKind
	parts []part
}

// recipes stand by the constants' kinds. Pi is as Machin had it; the logarithms are such sums, too: those of (at + 1) / (at - 1), which have no prime factor above 7, make up 2 and 10.
var recipes = [api.ConstCount]recipe{
	api.ConstPi:      {parts: []part{{circular, 16, 5, false}, {circular, 4, 239, true}}},
	api.ConstLn2:     {parts: []part{{hyperbolic, 18, 26, false}, {hyperbolic, 2, 4801, true}, {hyperbolic, 8, 8749, false}}},
	api.ConstLn10:    {parts: []part{{hyperbolic, 478, 251, false}, {hyperbolic, 180, 449, false}, {hyperbolic, 126, 4801, true}, {hyperbolic, 206, 8749, false}}},
	api.ConstE:       {parts: []part{{factorials, 1, 1, false}}},
	api.ConstInvPi:   {over: api.ConstPi},
	api.ConstInvLn2:  {over: api.ConstLn2},
	api.ConstInvLn10: {over: api.ConstLn10},
}

// enclosed is a known constant in units of 2^-w, off by no more units than there are terms, and a few. It has 40 bits at least.
func enclosed(k api.ConstKind, w int) fixed.Span {
	if over := recipes[k].over; over != api.ConstNone {
		return reciprocal(enclosed(over, w), w)
	}
	var sums [2]api.Nat // of what is added, of what is taken off
	var units uint64
	for _, p := range recipes[k].parts {
		units += p.sumUp(w, &sums)
	}
	middle, away := fixed.Less(sums[0], sums[1]), nat.Of(units)
	return fixed.Units(fixed.Less(middle, away), fixed.Plus(middle, away), w)
}

// reciprocal is 1 divided by what lies in a span of units of 2^-w, in the same units.
func reciprocal(v fixed.Span, w int) fixed.Span {
	one := fixed.One(2 * w)
	return fixed.Units(fixed.Over(one, v.Hi.Abs), fixed.Plus(fixed.Over(one, v.Lo.Abs), nat.Of(1)), w)
}

// sumUp adds the terms to the two sums, and answers by how many units they are off at most.
func (p part) sumUp(w int, sums *[2]api.Nat) uint64 {
	next := p.terms(w)
	for count := uint64(0); ; count++ {
		term, side := next()
		if len(term) == 0 {
			// Each term is off by less than a unit. The first that is left out is itself less than one, and each one behind it less than a tenth of the one ahead: together less than two.
			return count + 2
		}
		sums[side] = fixed.Plus(sums[side], term)
	}
}

// terms gives one term of the series after the other, rounded down, and the sum to which it goes.
func (p part) terms(w int) func() (term api.Nat, side int) {
	first := fixed.Shift(nat.Of(p.times), w)
	if p.kind == factorials {
		return p.overFactorials(first)
	}
	return p.overPowers(first)
}

// overFactorials divides by one number more each time. (Rounding down again and again is rounding down once.)
func (p part) overFactorials(first api.Nat) func() (api.Nat, int) {
	quotient, n := first, uint64(0)
	return func() (api.Nat, int) {
		term := quotient
		n++
		quotient = fixed.Over(quotient, nat.Of(n))
		return term, p.side(false)
	}
}

// overPowers divides by the odd powers, and each of these quotients by the power's number.
func (p part) overPowers(first api.Nat) func() (api.Nat, int) {
	quotient, n, turned := fixed.Over(first, nat.Of(p.at)), uint64(1), false
	return func() (api.Nat, int) {
		term, side := fixed.Over(quotient, nat.Of(n)), p.side(turned)
		quotient = fixed.Over(quotient, nat.Of(p.at*p.at))
		n += 2
		turned = p.kind == circular && !turned
		return term, side
	}
}

// side is the sum to which a term goes, whose own sign may be turned.
func (p part) side(turned bool) int {
	if p.off != turned {
		return 1
	}
	return 0
}
