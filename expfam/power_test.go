package expfam_test

import (
	"math"
	"reflect"
	"slices"
	"testing"

	"ulp/api"
	"ulp/dyad"
	"ulp/expfam"
	"ulp/ival"
	"ulp/probe"
)

const (
	all       = uint64(math.MaxUint64)
	mostPower = api.MaxCore - 128 // bits of a power
)

// either are the numbers, and less each of them.
func either(list []api.Dyad) []api.Dyad {
	for _, d := range slices.Clone(list) {
		list = append(list, less(d))
	}
	return list
}

// exponents are dyadic numbers above 0 that are not above a bound: edges, forms that are not the one form, numbers of many bits, and some without a pattern.
func exponents(bound int64) []api.Dyad {
	most, least := dyad.Int(bound), of(1, -api.MaxExp)
	list := []api.Dyad{
		of(1, 0), of(3, 0), of(10, 0), of(3, -1), of(12, -3), {Abs: api.Nat{0, 1, 0}, Exp: -66}, of(709, 0), {Abs: probe.Power2(api.MaxExp), Exp: 11 - api.MaxExp},
		most, sum(most, less(least)), sum(most, less(of(1, -50))), {Abs: probe.Filled(200, all), Exp: 12 - 64*200}, {Abs: probe.Filled(3, all), Exp: -192}, {Abs: probe.Filled(490, all), Exp: -1000 - 64*490},
		of(1, -1000), of(1, -1074), of(3, -1075), sum(of(1, -700), of(1, -3000)), {Abs: append(probe.Filled(9, 0), all, 0), Exp: -700},
	}
	s := probe.Source(1)
	for range 40 {
		n := 1 + s.Below(5)
		list = append(list, api.Dyad{Abs: append(s.Natural(n), 1|s.Word()), Exp: s.Below(70) - 122 - 64*n})
	}
	return list
}

// 15.2
func TestPower(t *testing.T) {
	for _, k := range kinds[:3] {
		for i, d := range either(exponents(k.reach)) {
			for j := range 2 {
				checkPower(t, k.base, d, few[(i+4*j)%len(few)])
			}
		}
	}
}

// 15.2
func TestPowerManyBits(t *testing.T) {
	for _, k := range kinds[:3] {
		for _, d := range either([]api.Dyad{of(1, 0), of(3, -1), of(1, -900), dyad.Int(k.reach), sum(dyad.Int(k.reach), less(of(1, -api.MaxExp)))}) {
			for _, p := range []int{api.MaxBits, api.MaxBits + 1, mostPower - 1, mostPower} {
				checkPower(t, k.base, d, p)
			}
		}
	}
}

// 15.2: 0 in all its forms.
func TestPowerOfZero(t *testing.T) {
	for _, k := range kinds[:3] {
		for _, zero := range []api.Dyad{{}, {Neg: true}, {Abs: api.Nat{}}, {Abs: api.Nat{0, 0}}, {Neg: true, Abs: api.Nat{0}, Exp: -api.MaxExp}, {Exp: api.MaxExp}, {Abs: probe.Filled(2*api.MaxLimbs, 0), Exp: 3}} {
			for _, p := range []int{api.MinBits, 64, mostPower} {
				if v, why := expfam.Power(k.base, zero, p); why != api.OK || !isForm(v) || !narrow(v, p) || !ival.Has(v, of(1, 0)) {
					t.Errorf("Power(%d, 0, %d) = %s, error %d", k.base, p, showIval(v), why)
				}
			}
		}
	}
}

// 15.2: just beyond reach, on both sides, and far beyond; what is not looked at is refused for its bits first.
func TestPowerBeyond(t *testing.T) {
	for _, k := range kinds[:3] {
		most := dyad.Int(k.reach)
		list := []api.Dyad{
			sum(most, of(1, 0)), sum(most, of(1, -40)), sum(most, of(1, -api.MaxExp)), of(1, 15), of(1, api.MaxExp), of(2, api.MaxExp),
			{Abs: probe.Power2(15)}, {Abs: probe.Filled(api.MaxLimbs, all), Exp: -api.MaxExp}, {Abs: probe.Filled(api.MaxLimbs, all), Exp: api.MaxExp},
		}
		for _, d := range either(list) {
			for _, p := range []int{api.MinBits, 64, mostPower} {
				refusedPower(t, k.base, d, p, api.ErrMany)
			}
			refusedPower(t, k.base, d, api.MinBits-1, api.ErrRange)
			refusedPower(t, k.base, d, mostPower+1, api.ErrRange)
		}
	}
}

// 15.2: bases that are none, bits just beyond those that may be asked for, numbers that are not right.
func TestPowerWrong(t *testing.T) {
	good := []api.Dyad{{}, of(1, 0), less(of(1, 0)), of(1, -20000), of(1, 15)}
	for _, base := range []int{-1, 1, 3, 4, 5, 8, 9, 11, 12, 16, -2, -10, 256, 258, 266, math.MinInt, math.MaxInt} {
		for _, d := range slices.Concat(good, probe.WrongNumbers()) {
			for _, p := range append([]int{api.MinBits, 64, mostPower}, wrongBits...) {
				refusedPower(t, base, d, p, api.ErrRange)
			}
		}
	}
	for _, k := range kinds[:3] {
		for _, p := range append([]int{mostPower + 1, api.MaxCore, api.MaxWork}, wrongBits...) {
			for _, d := range good {
				refusedPower(t, k.base, d, p, api.ErrRange)
			}
		}
		for _, d := range either(probe.WrongNumbers()) {
			for _, p := range append([]int{api.MinBits, 64, mostPower}, wrongBits...) {
				refusedPower(t, k.base, d, p, api.ErrRange)
			}
		}
	}
}

// besideOne tells whether v is an enclosure to p bits of a power of a number so near 0 that the power lies between 1 and what four times the number is more.
func besideOne(v api.Ival, d api.Dyad, p int) bool {
	one, far := of(1, 0), sum(of(1, 0), api.Dyad{Neg: d.Neg, Abs: d.Abs, Exp: d.Exp + 2})
	if d.Neg {
		one, far = far, one
	}
	return isForm(v) && narrow(v, p) && ival.Meets(v, api.Ival{Lo: one, Hi: far})
}

// 15.2: the nearest to 0 that must be told, also where the exponent of e is yet nearer; what lies nearer may be refused, but if it is not, it is told rightly.
func TestPowerTiny(t *testing.T) {
	top := -1 << 14
	told := []api.Dyad{of(1, top), of(3, top), sum(of(1, top), of(1, -api.MaxExp)), sum(of(1, top+1), less(of(1, -api.MaxExp))), of(1, top+1), of(0x1234567, -9000)}
	for n := api.MaxCore - 8; n < api.MaxCore+8; n++ {
		told = append(told, of(1, -n), sum(of(1, -n), less(of(1, -api.MaxExp))))
	}
	nearer := []api.Dyad{of(1, top-1), sum(of(1, top), less(of(1, -api.MaxExp))), of(1, -20000), of(1, -api.MaxExp), of(3, -api.MaxExp)}
	for _, k := range kinds[:3] {
		for _, p := range []int{api.MinBits, 53, 1000, mostPower} {
			for _, d := range either(told) {
				if v, why := expfam.Power(k.base, d, p); why != api.OK || !besideOne(v, d, p) {
					t.Errorf("Power(%d, %s, %d): error %d", k.base, show(d), p, why)
				}
			}
			for _, d := range either(nearer) {
				v, why := expfam.Power(k.base, d, p)
				refused := why == api.ErrMany && reflect.DeepEqual(v, api.Ival{})
				if !refused && (why != api.OK || !besideOne(v, d, p)) {
					t.Errorf("Power(%d, %s, %d): error %d", k.base, show(d), p, why)
				}
			}
		}
	}
}

// 15.2: numbers so near 0 that the power lies next to 1, held against the value with so many bits that it can be told from 1.
func TestPowerNextToOne(t *testing.T) {
	for _, k := range kinds[:3] {
		for n := api.MaxCore - 8; n < api.MaxCore+8; n += 3 {
			for _, d := range either([]api.Dyad{of(1, -n), sum(of(1, -n), less(of(1, -n-100)))}) {
				v, why := expfam.Power(k.base, d, 64)
				if why != api.OK || !has(v, powerOf(k.base, d, 4500), 4500) {
					t.Errorf("Power(%d, %s, 64): error %d, or the value is not in it", k.base, show(d), why)
				}
			}
		}
	}
}

// 15.2: whatever is handed in, there is an answer.
func TestPowerOfAnything(t *testing.T) {
	list := slices.Concat(probe.Numbers(), probe.GreatNumbers(), probe.WrongNumbers())
	for base := -3; base < 13; base++ {
		for _, d := range list {
			for _, p := range append([]int{api.MinBits, 70}, wrongBits...) {
				v, why := expfam.Power(base, d, p)
				if why == api.OK && !(isForm(v) && narrow(v, p)) || why != api.OK && !reflect.DeepEqual(v, api.Ival{}) {
					t.Errorf("Power(%d, %d words, exponent %d, %d): error %d", base, len(d.Abs), d.Exp, p, why)
				}
			}
		}
	}
}

// 15.3
func TestPowerNewMemory(t *testing.T) {
	for _, k := range kinds[:3] {
		for _, d := range either([]api.Dyad{{}, of(1, 0), of(12, -3), {Abs: api.Nat{0, 6, 0}, Exp: -65}, {Abs: probe.Filled(20, all), Exp: -1270}, of(1, -3000), of(1, -5000), of(1, -20000)}) {
			for _, p := range []int{api.MinBits, 64, 500} {
				was := slices.Clone(d.Abs)
				d.Abs = slices.Grow(slices.Clone(d.Abs), 4)
				var answers []api.Nat
				for range 2 {
					v, _ := expfam.Power(k.base, d, p)
					answers = append(answers, v.Lo.Abs, v.Hi.Abs)
				}
				if !probe.Apart(answers, d.Abs) {
					t.Errorf("answers of Power(%d, %s, %d) share memory", k.base, show(d), p)
				}
				if !slices.Equal(d.Abs, was) {
					t.Errorf("%v became %v", was, d.Abs)
				}
			}
		}
	}
}

// 15.2: of a binary64 Power and Enclose meet.
func TestPowerMeetsEnclose(t *testing.T) {
	for _, k := range kinds[:3] {
		for i, x := range bothSigns(amounts(float64(k.reach))) {
			p, q := few[i%len(few)], few[(i+2)%len(few)]
			v, why := expfam.Power(k.base, number(x), p)
			if why != api.OK || !ival.Meets(v, enclosed(t, k.f, x, q)) {
				t.Errorf("base %d: the powers of %x to %d and to %d bits do not meet, error %d", k.base, x, p, q, why)
			}
		}
	}
}
