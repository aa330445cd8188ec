package logcore

import (
	"ulp/api"
	"ulp/fixed"
	"ulp/ival"
	"ulp/nat"
)

// nearOne is the logarithm of a number from 3/4 to 3/2, told rounded down and up; below: it is less than 1.
func nearOne(m func(up bool) fixed.Number, below bool, w int) (api.Ival, api.Errno) {
	v, why := fixed.Between(func(up bool) fixed.Number {
		return amount(m(up != below), below, w, up)
	}).Ival()
	if why != api.OK || !below {
		return v, why
	}
	return ival.Neg(v)
}

// amount is that of the logarithm of m: twice the angle of the hyperbola whose tangent is (m - 1) / (m + 1). The angle is halved so often that its series ends soon.
func amount(m fixed.Number, below bool, w int, up bool) fixed.Number {
	away := fromOne(m, below)
	if away.Zero() {
		return fixed.Number{}
	}
	// What the cotangent is above 1 is reckoned with, which falls as the amount rises: 2 / (m - 1), or 2 m / (1 - m).
	twice := fixed.Whole(2)
	if below {
		twice = m.Scale(1)
	}
	above := twice.Over(away, w, !up)
	n := halvings(w)
	for range n {
		above = halved(above, w, !up)
	}
	one := fixed.Whole(1)
	tangent := one.Over(above.Plus(one, w, !up), w, up)
	return tangent.Times(slope(tangent, w, up), w, up).Scale(n + 1)
}

// fromOne is how far m lies from 1, exactly.
func fromOne(m fixed.Number, below bool) fixed.Number {
	one := fixed.One(-m.Exp)
	if below {
		return fixed.Number{Abs: fixed.Less(one, m.Abs), Exp: m.Exp}
	}
	return fixed.Number{Abs: fixed.Less(m.Abs, one), Exp: m.Exp}
}

// halvings is how often the angle is halved. Each time makes every term tell two bits more, but takes some 16 times as long as a term; without any, a term tells some four.
func halvings(w int) int {
	n := 0
	for 32*(n+2)*(n+2) < w {
		n++
	}
	return n
}

// halved is what the cotangent of half the angle is above 1. That one is the cotangent and the root of what its square is above 1, added.
func halved(above fixed.Number, w int, up bool) fixed.Number {
	square := above.Plus(fixed.Whole(2), w, up).Times(above, w, up)
	return above.Plus(square.Root(w, up), w, up)
}

// slope is the angle of the hyperbola, divided by its tangent, which is at most 1/5.
func slope(tangent fixed.Number, w int, up bool) fixed.Number {
	var sum api.Nat
	var units uint64
	terms(tangent.Times(tangent, w, up).Units(w, up), w)(func(term api.Nat) bool {
		sum = fixed.Plus(sum, term)
		// A power is less than 2 units too small if the one ahead of it is, as little of that is left, and a term less than 2. So is the first that is told as 0, with all behind it.
		units += 2
		return len(term) > 0
	})
	if up {
		sum = fixed.Plus(sum, nat.Of(units))
	}
	return fixed.Number{Abs: sum, Exp: -w}
}

// terms are 1, q / 3, q^2 / 5 and so on, one by one, as long as they are asked for; all in units of 2^-w, rounded down.
func terms(q api.Nat, w int) func(more func(term api.Nat) bool) {
	return func(more func(term api.Nat) bool) {
		power := fixed.One(w)
		for n := uint64(1); more(fixed.Over(power, nat.Of(n))); n += 2 {
			power = fixed.Shift(fixed.Times(power, q), -w)
		}
	}
}
