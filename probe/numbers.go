package probe

import (
	"math"
	"slices"

	"ulp/api"
)

const (
	all       uint64 = math.MaxUint64
	minusZero uint64 = 1 << 63
	greatest  uint64 = 0x7fefffffffffffff
	leastNorm uint64 = 0x0010000000000000
)

// Number is a dyadic one of at most four words, with an exponent near 0.
func (s *Source) Number() api.Dyad {
	return api.Dyad{Neg: s.Word()%2 == 0, Abs: s.Natural(s.Below(5)), Exp: s.Below(400) - 200}
}

// Float is one from 2^exp to below 2^(exp + 1) in amount, exp that of a normal binary64; it has few bits or many.
func (s *Source) Float(exp int) float64 {
	w := s.Word()
	fraction := w >> 12 >> s.Below(53) << s.Below(53) & (1<<52 - 1)
	return math.Float64frombits(w&minusZero | uint64(1023+exp)<<52 | fraction)
}

// Numbers are edges, forms that are not the one form, and numbers without a pattern; all of them right.
func Numbers() []api.Dyad {
	list := []api.Dyad{
		{}, {Neg: true}, {Abs: api.Nat{0, 0}, Exp: 7}, {Neg: true, Abs: api.Nat{0}, Exp: -api.MaxExp}, {Exp: api.MaxExp},
		{Abs: api.Nat{1}}, {Neg: true, Abs: api.Nat{1}}, {Abs: api.Nat{12}}, {Abs: api.Nat{12, 0}, Exp: -2}, {Abs: api.Nat{3}, Exp: 2},
		{Abs: api.Nat{0, 1}}, {Abs: api.Nat{0, 1}, Exp: -64}, {Neg: true, Abs: api.Nat{0, 6, 0}, Exp: -65},
		{Abs: api.Nat{11}}, {Neg: true, Abs: api.Nat{11}}, {Abs: api.Nat{3}, Exp: -1}, {Neg: true, Abs: api.Nat{3}, Exp: -1},
		{Abs: api.Nat{all}}, {Abs: api.Nat{all, all}, Exp: -64}, {Neg: true, Abs: api.Nat{all}, Exp: -64}, {Abs: api.Nat{1}, Exp: -64},
		{Abs: api.Nat{1, 1}, Exp: -64}, {Abs: api.Nat{1 << 63}, Exp: -63}, {Abs: api.Nat{1<<63 - 1}},
	}
	s := Source(1)
	for range 40 {
		list = append(list, s.Number())
	}
	return list
}

// GreatNumbers are right numbers at the limits of size and exponent.
func GreatNumbers() []api.Dyad {
	var list []api.Dyad
	for _, neg := range []bool{false, true} {
		for _, exp := range []int{-api.MaxExp, -1, 0, api.MaxExp} {
			list = append(list,
				api.Dyad{Neg: neg, Abs: Filled(api.MaxLimbs, all), Exp: exp},
				api.Dyad{Neg: neg, Abs: append(Filled(api.MaxLimbs, all), 0, 0), Exp: exp},
				api.Dyad{Neg: neg, Abs: Power2(64*api.MaxLimbs - 1), Exp: exp},
				api.Dyad{Neg: neg, Abs: append(append(api.Nat{1}, Filled(api.MaxLimbs-2, 0)...), 1<<63), Exp: exp},
				api.Dyad{Neg: neg, Abs: api.Nat{1}, Exp: exp},
				api.Dyad{Neg: neg, Abs: api.Nat{2}, Exp: exp},
				api.Dyad{Neg: neg, Abs: Filled(api.MaxLimbs/2, all), Exp: exp},
			)
		}
	}
	return list
}

// WrongNumbers are not right, by Abs, by Exp, by both.
func WrongNumbers() []api.Dyad {
	return []api.Dyad{
		{Abs: append(Filled(api.MaxLimbs, 0), 1)},
		{Abs: Filled(api.MaxLimbs+1, all), Exp: -5},
		{Abs: api.Nat{1}, Exp: api.MaxExp + 1},
		{Abs: api.Nat{1}, Exp: -api.MaxExp - 1},
		{Neg: true, Abs: Power2(80), Exp: -api.MaxExp - 1},
		{Exp: api.MaxExp + 1},
		{Exp: -api.MaxExp - 1},
		{Abs: api.Nat{1}, Exp: math.MaxInt},
		{Abs: api.Nat{2}, Exp: math.MaxInt},
		{Abs: api.Nat{1}, Exp: math.MinInt},
		{Abs: Filled(api.MaxLimbs+1, 1), Exp: math.MinInt},
	}
}

// Floats are finite binary64 numbers: edges, the neighbourhood of powers of 2, and some without a pattern.
func Floats() []uint64 {
	list := []uint64{0, 1, 2, 3, 0x000fffffffffffff, 0x0008000000000000, leastNorm, leastNorm + 1, greatest, greatest - 1, 0x3ff0000000000000, 0x3ff8000000000000}
	for e := uint64(0); e < 2047; e += 31 {
		list = append(list, e<<52, e<<52+1, e<<52+0x000fffffffffffff)
	}
	s := Source(9)
	for range 300 {
		if x := s.Word() &^ minusZero; x <= greatest {
			list = append(list, x)
		}
	}
	for _, x := range slices.Clone(list) {
		list = append(list, x|minusZero)
	}
	return list
}
