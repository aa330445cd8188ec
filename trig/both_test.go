package trig_test

import (
	"math"
	"math/big"
	"reflect"
	"slices"
	"testing"

	"ulp/api"
	"ulp/ival"
	"ulp/probe"
	"ulp/trig"
)

const (
	all   = uint64(math.MaxUint64)
	least = -1 << 14 // the top of the nearest numbers to 0 that must be told
)

var zeros = []api.Dyad{{}, {Neg: true}, {Abs: api.Nat{}}, {Abs: api.Nat{0, 0}}, {Neg: true, Abs: api.Nat{0}, Exp: -api.MaxExp}, {Exp: api.MaxExp}, {Abs: probe.Filled(2*api.MaxLimbs, 0), Exp: 3}}

// either are the numbers, and less each of them.
func either(list []api.Dyad) []api.Dyad {
	for _, d := range slices.Clone(list) {
		list = append(list, less(d))
	}
	return list
}

// angles are above 0 and below 2^1024: edges, forms that are not the one form, numbers of many bits, numbers near 0, and some without a pattern.
func angles() []api.Dyad {
	list := []api.Dyad{
		of(1, 0), of(3, 0), of(10, 0), of(3, -1), of(12, -4), {Abs: api.Nat{0, 1, 0}, Exp: -66}, of(1, -1), of(25, -5), of(1, -1074), of(1, 1023), {Abs: probe.Filled(16, all)}, {Abs: probe.Filled(528, all), Exp: -api.MaxExp}, {Abs: append(probe.Power2(2000), 0), Exp: -1000},
		sum(of(1, 1024), less(of(1, -api.MaxExp))), sum(of(1, 1023), of(1, -api.MaxExp)), sum(of(1, -1), less(of(1, -api.MaxExp))), sum(of(1, -26), of(1, -api.MaxExp)), sum(of(1, -26), less(of(1, -api.MaxExp))),
		of(1, least), of(3, least), sum(of(1, least), of(1, -api.MaxExp)), sum(of(1, least+1), less(of(1, -api.MaxExp))), of(0x123456789, -5000), of(3, -12000), sum(of(1, -700), of(1, -3000)), {Abs: probe.Filled(500, all), Exp: -32700}, {Abs: append(probe.Filled(9, 0), all, 0), Exp: -700},
	}
	for n := -1900; n < 0; n += 171 {
		list = append(list, of(1, n), sum(of(1, n), of(1, n-60)), sum(of(1, n), less(of(1, n-500))), sum(of(1, n), of(1, -30000)))
	}
	s := probe.Source(18)
	for range 60 {
		n := 1 + s.Below(5)
		list = append(list, api.Dyad{Abs: append(s.Natural(n), 1|s.Word()), Exp: s.Below(200) - 140 - 64*n})
	}
	return list
}

// 17.2
func TestBoth(t *testing.T) {
	for i, d := range either(angles()) {
		for j := range 2 {
			checkBoth(t, d, few[(i+4*j)%len(few)])
		}
	}
}

// 17.2
func TestBothManyBits(t *testing.T) {
	for _, d := range either([]api.Dyad{of(1, 0), of(3, -1), of(1, -900), of(1, least), sum(of(1, 1024), less(of(1, -api.MaxExp))), sum(of(1, -26), of(1, -3000))}) {
		for _, p := range []int{1000, api.MaxBits - 1, api.MaxBits} {
			checkBoth(t, d, p)
		}
	}
}

// besideReal are the two numbers of so many bits between which a real number lies.
func besideReal(x *big.Float, bits int) []api.Dyad {
	down, up := fresh(uint(bits)).SetMode(big.ToNegativeInf).Set(x), fresh(uint(bits)).SetMode(big.ToPositiveInf).Set(x)
	return []api.Dyad{dyadic(down), dyadic(up)}
}

// 17.2: dyadic numbers lie as near to multiples of pi / 2 as one likes: to some 2^-2040 they must be told.
func TestBothBesideMultiples(t *testing.T) {
	for i, n := range multiples() {
		x := quarterPi(n)
		for _, below := range []int{30, 100, 1000, 2040} {
			for _, d := range either(besideReal(x, max(1, x.MantExp(nil)+below))) {
				checkBoth(t, d, few[(i+below)%len(few)])
			}
		}
	}
}

// 17.2: nearer than 2^-2048 they are told rightly, or that they are hard.
func TestBothHard(t *testing.T) {
	for i, n := range multiples() {
		if i%3 != 0 {
			continue
		}
		x := quarterPi(n)
		for _, below := range []int{2100, 4000, 6500} {
			for _, d := range either(besideReal(x, x.MantExp(nil)+below)) {
				sine, cosine, why := trig.Both(d, 64)
				if why == api.ErrHard && reflect.DeepEqual(sine, api.Ival{}) && reflect.DeepEqual(cosine, api.Ival{}) {
					continue
				}
				if why != api.OK || !rightBoth(sine, cosine, d, 64) {
					t.Errorf("Both, 2^-%d from %v times pi / 4: %s, %s, error %d", below, n, showIval(sine), showIval(cosine), why)
				}
			}
		}
	}
}

// 17.2: 0 in all its forms.
func TestBothOfZero(t *testing.T) {
	for _, zero := range zeros {
		for _, p := range []int{api.MinBits, 64, api.MaxBits} {
			sine, cosine, why := trig.Both(zero, p)
			if why != api.OK || !reflect.DeepEqual(sine, api.Ival{}) || !isForm(cosine) || !narrow(cosine, p) || !ival.Has(cosine, of(1, 0)) {
				t.Errorf("Both(0, %d) = %s, %s, error %d", p, showIval(sine), showIval(cosine), why)
			}
		}
	}
}

// tooGreat are from 2^1024 on; tooNear have tops below -2^14.
func tooGreat() []api.Dyad {
	return []api.Dyad{of(1, 1024), sum(of(1, 1024), of(1, -api.MaxExp)), {Abs: probe.Power2(1024)}, {Abs: probe.Power2(2024), Exp: -1000}, of(3, 2000), of(1, api.MaxExp), of(2, api.MaxExp), {Abs: api.Nat{0, 4, 0}, Exp: api.MaxExp}, {Abs: probe.Filled(api.MaxLimbs, all)}, {Abs: probe.Filled(api.MaxLimbs, all), Exp: -api.MaxExp}, {Abs: probe.Filled(529, all), Exp: -api.MaxExp}}
}

func tooNear() []api.Dyad {
	return []api.Dyad{of(1, least-1), sum(of(1, least), less(of(1, -api.MaxExp))), of(1, -20000), of(1, -api.MaxExp), of(2, -api.MaxExp), of(3, -api.MaxExp), {Abs: probe.Filled(200, all), Exp: -api.MaxExp}}
}

// 17.2
func TestBothMany(t *testing.T) {
	for _, d := range either(slices.Concat(tooGreat(), tooNear())) {
		for _, p := range []int{api.MinBits, 64, api.MaxBits} {
			refusedBoth(t, d, p, api.ErrMany)
		}
	}
}

// 17.2: what is wrong by its bits or by itself is refused for that first.
func TestBothWrong(t *testing.T) {
	for _, p := range wrongBits {
		for _, d := range either(slices.Concat(zeros, tooGreat(), tooNear(), []api.Dyad{of(1, 0), of(3, -2)})) {
			refusedBoth(t, d, p, api.ErrRange)
		}
	}
	for _, d := range either(probe.WrongNumbers()) {
		for _, p := range append([]int{api.MinBits, 64, api.MaxBits}, wrongBits...) {
			refusedBoth(t, d, p, api.ErrRange)
		}
	}
}

// 17.2: whatever is handed in, there is an answer.
func TestBothOfAnything(t *testing.T) {
	sound := func(v api.Ival, why api.Errno, p int) bool {
		return why == api.OK && isForm(v) && narrow(v, p) || why != api.OK && reflect.DeepEqual(v, api.Ival{})
	}
	for _, d := range slices.Concat(probe.Numbers(), probe.GreatNumbers(), probe.WrongNumbers(), tooNear()) {
		for _, p := range append([]int{api.MinBits, 70}, wrongBits...) {
			if v, w, why := trig.Both(d, p); !sound(v, why, p) || !sound(w, why, p) {
				t.Errorf("Both of %d words, exponent %d, to %d bits: error %d", len(d.Abs), d.Exp, p, why)
			}
		}
	}
}

// 17.3
func TestBothNewMemory(t *testing.T) {
	for _, d := range either([]api.Dyad{{}, of(1, 0), of(3, 0), of(5, 0), of(12, -3), {Abs: api.Nat{0, 6, 0}, Exp: -65}, {Abs: probe.Filled(20, all), Exp: -1270}, of(1, -26), of(3, -3000), of(1, -5000), of(1, least), {Abs: probe.Filled(60, all), Exp: -9000}}) {
		for _, p := range []int{api.MinBits, 64, 500} {
			was := slices.Clone(d.Abs)
			d.Abs = slices.Grow(slices.Clone(d.Abs), 4)
			var answers []api.Nat
			for range 2 {
				sine, cosine, _ := trig.Both(d, p)
				answers = append(answers, sine.Lo.Abs, sine.Hi.Abs, cosine.Lo.Abs, cosine.Hi.Abs)
			}
			if !probe.Apart(answers, d.Abs) {
				t.Errorf("answers of Both(%s, %d) share memory", show(d), p)
			}
			if !slices.Equal(d.Abs, was) {
				t.Errorf("%v became %v", was, d.Abs)
			}
		}
	}
}
