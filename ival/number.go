package ival

import (
	"cmp"

	"ulp/api"
	"ulp/dyad"
	"ulp/nat"
)

// The numbers of this file have naturals that are not too great, but, where it is not said that they are right, any exponent.

const mostBits = 64 * api.MaxLimbs

// bitLen is how many bits a natural has that is not too great.
func bitLen(a api.Nat) int {
	n, _ := nat.Len(a)
	return n
}

func sign(d api.Dyad) int {
	switch {
	case bitLen(d.Abs) == 0:
		return 0
	case d.Neg:
		return -1
	default:
		return 1
	}
}

// against is -1, 0, 1, as x lies below y, is it, lies above it.
func against(x, y api.Dyad) int {
	s := sign(x)
	if s != sign(y) || s == 0 {
		return cmp.Compare(s, sign(y))
	}
	lenX, lenY := bitLen(x.Abs), bitLen(y.Abs)
	if topX, topY := x.Exp+lenX, y.Exp+lenY; topX != topY {
		return s * cmp.Compare(topX, topY)
	}
	// With one top they may stand anywhere: here both are right, however many bits they have.
	x.Exp, y.Exp = api.MaxExp-lenX, api.MaxExp-lenY
	order, _ := dyad.Cmp(x, y)
	return order
}

// cut is the next number of at most p bits, down or up; ErrMany, if it has no room.
func cut(d api.Dyad, p int, up bool) (api.Dyad, api.Errno) {
	lift := d.Exp + api.MaxExp
	d.Exp = -api.MaxExp // from here no bit, not even one that is carried, is out of bounds
	short, _ := dyad.Cut(d, p, up)
	if !dyad.Zero(short) {
		short.Exp += lift
	}
	if dyad.Check(short) != api.OK {
		return api.Dyad{}, api.ErrMany
	}
	return short, api.OK
}

// marked is a number of which the amount is told rounded down. If it is more than that, the last bit tells it: cut to fewer bits, it is then what the number itself is.
func marked(neg bool, abs api.Nat, exp int, more bool) api.Dyad {
	if more {
		abs[0] |= 1
	}
	return api.Dyad{Neg: neg, Abs: abs, Exp: exp}
}

// sum is that of two right numbers; ErrMany, if it has no room however it is cut.
func sum(x, y api.Dyad) (api.Dyad, api.Errno) {
	all, why := dyad.Add(x, y)
	if why == api.OK {
		return all, api.OK
	}
	// It is out of bounds, by an exponent that is too high or by more bits than a natural has. If it is whole, its cuts, which have MaxWork bits at most, have too high an exponent, too. If not, it is at least 2^MaxExp, so that its cuts are whole: for these any fraction is as good as 1/2.
	wholeX, restX := parts(x)
	wholeY, restY := parts(y)
	rest, _ := dyad.Add(restX, restY)
	carried, rest, _ := dyad.Floor(rest)
	if dyad.Zero(rest) {
		return api.Dyad{}, api.ErrMany
	}
	tail, _ := dyad.Add(carried, api.Dyad{Abs: nat.Of(1), Exp: -1})
	if tail, why = dyad.Add(tail, wholeX); why != api.OK {
		return api.Dyad{}, api.ErrMany
	}
	return dyad.Add(tail, wholeY)
}

// parts are a right number's whole part and what is left, both with its sign.
func parts(d api.Dyad) (whole, rest api.Dyad) {
	if d.Exp >= 0 {
		return d, api.Dyad{}
	}
	abs, _, _ := nat.Shr(d.Abs, -d.Exp)
	whole = api.Dyad{Neg: d.Neg, Abs: abs}
	rest, _ = dyad.Sub(d, whole)
	return whole, rest
}

func product(x, y api.Dyad, p int) api.Dyad {
	neg, exp := x.Neg != y.Neg, x.Exp+y.Exp
	abs, why := nat.Mul(x.Abs, y.Abs)
	if why == api.OK {
		return marked(neg, abs, exp, false)
	}
	a, down := filled(x.Abs)
	b, downToo := filled(y.Abs)
	high, more := highProduct(a, b)
	return marked(neg, high, exp-down-downToo+mostBits, more)
}

// filled is a natural other than 0, shifted by n to the most bits that one has.
func filled(a api.Nat) (full api.Nat, n int) {
	n = mostBits - bitLen(a)
	full, _ = nat.Shl(a, n)
	return full, n
}

// highProduct is the upper half of the product of two naturals of MaxLimbs words, and whether the lower half is not 0: the whole is too great.
func highProduct(a, b api.Nat) (high api.Nat, more bool) {
	aLow, aHigh := halves(a)
	bLow, bHigh := halves(b)
	under, carried := halves(times(aLow, bLow))
	first, firstHigh := halves(plus(times(aHigh, bLow), carried))
	second, secondHigh := halves(times(aLow, bHigh))
	middle, carried := halves(plus(first, second))
	high = plus(plus(times(aHigh, bHigh), firstHigh), plus(secondHigh, carried))
	return high, bitLen(under) > 0 || bitLen(middle) > 0
}

// halves are the words below half of MaxLimbs, and those from there on.
func halves(a api.Nat) (low, high api.Nat) {
	n := min(len(a), api.MaxLimbs/2)
	return a[:n], a[n:]
}

// times is a product that is not too great.
func times(a, b api.Nat) api.Nat {
	c, _ := nat.Mul(a, b)
	return c
}

// plus is a sum that is not too great.
func plus(a, b api.Nat) api.Nat {
	c, _ := nat.Add(a, b)
	return c
}

// quotient has more than p bits, with what is left told by its last one; y is not 0.
func quotient(x, y api.Dyad, p int) api.Dyad {
	if sign(x) == 0 {
		return api.Dyad{}
	}
	words := max(0, (bitLen(y.Abs)+p+1-bitLen(x.Abs)+63)/64)
	abs, more := divided(x.Abs, words, y.Abs)
	return marked(x.Neg != y.Neg, abs, x.Exp-y.Exp-64*words, more)
}

// divided is a with so many words 0 ahead of its own, divided by b, rounded down; and whether something is left. The quotient has far fewer words than b, if a becomes too great by these.
func divided(a api.Nat, words int, b api.Nat) (q api.Nat, more bool) {
	a, _ = nat.Norm(a)
	spare := max(0, len(a)+words-api.MaxLimbs)
	dividend := make(api.Nat, words-spare+len(a))
	copy(dividend[words-spare:], a)
	divisor, _, _ := nat.Shr(b, 64*spare)
	q, rest, _ := nat.Div(dividend, divisor)
	// The words that both went without come in again: of b they are to be taken q times from what is left. As q is that small, it is one too great at most.
	rest, _ = nat.Shl(rest, 64*spare)
	order, _ := nat.Cmp(rest, times(q, b[:min(spare, len(b))]))
	if order < 0 {
		q, _ = nat.Sub(q, nat.Of(1))
	}
	return q, order != 0
}

// root is that of a number that is not below 0; it has more than p bits, with what is left told by its last one.
func root(d api.Dyad, p int) api.Dyad {
	if sign(d) == 0 {
		return api.Dyad{}
	}
	n := 2*p + 2 - bitLen(d.Abs)
	if (d.Exp-n)%2 != 0 {
		n++
	}
	abs, lost := shifted(d.Abs, n)
	abs, rest, _ := nat.Sqrt(abs)
	return marked(false, abs, (d.Exp-n)/2, lost || bitLen(rest) > 0)
}

// shifted is a natural times 2^n, n of either sign, rounded down, and whether anything was lost.
func shifted(a api.Nat, n int) (api.Nat, bool) {
	if n < 0 {
		a, lost, _ := nat.Shr(a, -n)
		return a, lost
	}
	a, _ = nat.Shl(a, n)
	return a, false
}

// littleApart tells whether two right numbers above 0, far not the lesser, lie apart by at most 2^-p times near.
func littleApart(near, far api.Dyad, p int) bool {
	// With far as high as a right number of any size may be, near or what lies between is only out of bounds if that is more than near.
	lift := api.MaxExp + 1 - far.Exp - bitLen(far.Abs)
	near.Exp += lift
	far.Exp += lift
	width, why := dyad.Sub(far, near)
	if why != api.OK {
		return false
	}
	width.Exp += min(p, 4*api.MaxExp+1) // what is not 0 is then above near anyway
	return against(width, near) <= 0
}
