package expcore_test

import (
	"cmp"
	"slices"
	"testing"

	"ulp/api"
	"ulp/dyad"
	"ulp/expcore"
	"ulp/ival"
	"ulp/probe"
)

// some are numbers of both signs, and 0.
func some() []api.Dyad {
	list := []api.Dyad{of(1, 0), of(3, -1), of(1, -30), of(7, -200), of(8000, 0), of(0x123456789abcdef, -50), {Abs: probe.Filled(3, all), Exp: -190}}
	return append(bothSigns(list), api.Dyad{})
}

// exp is an enclosure that must be answered.
func exp(t *testing.T, d api.Dyad, p int) api.Ival {
	t.Helper()
	v, why := expcore.Exp(d, p)
	if why != api.OK {
		t.Fatalf("Exp(%s, %d): error %d", show(d), p, why)
	}
	return v
}

// P10.3
func TestPowers(t *testing.T) {
	for _, p := range []int{api.MinBits, 64, 500} {
		for _, a := range some() {
			for _, b := range some() {
				product, why := ival.Mul(exp(t, a, p), exp(t, b, p), api.MaxWork)
				if why != api.OK || !ival.Meets(product, exp(t, sum(a, b), p)) {
					t.Errorf("%s and %s to %d bits: the powers' product does not meet that of the sum", show(a), show(b), p)
				}
			}
		}
	}
}

// P10.3
func TestReciprocals(t *testing.T) {
	for i, d := range amounts() {
		p := []int{api.MinBits, 53, 64, 300}[i%4]
		product, why := ival.Mul(exp(t, d, p), exp(t, less(d), p), api.MaxWork)
		if why != api.OK || !ival.Has(product, dyad.Int(1)) {
			t.Errorf("e^t times e^-t of %s to %d bits: 1 is not in it", show(d), p)
		}
	}
}

// P10.4
func TestLessOne(t *testing.T) {
	one := api.Ival{Lo: dyad.Int(1), Hi: dyad.Int(1)}
	for i, d := range append(bothSigns(amounts()), api.Dyad{}) {
		p := []int{api.MinBits, 53, 64, 300}[i%4]
		power := exp(t, d, p)
		less, why := expcore.Expm1(d, p)
		difference, _ := ival.Sub(power, one, api.MaxWork)
		if why != api.OK || !ival.Meets(less, difference) {
			t.Errorf("Exp less 1 and Expm1 of %s to %d bits do not meet", show(d), p)
		}
		if sign, same := ival.Sign(less); !same || sign != float(d).Sign() {
			t.Errorf("Expm1(%s, %d) has the sign %d, %v", show(d), p, sign, same)
		}
		if order, _ := dyad.Cmp(power.Hi, sum(d, dyad.Int(1))); order < 0 {
			t.Errorf("Exp(%s, %d) lies below 1 + t", show(d), p)
		}
	}
}

// rising are numbers in their order: those of both signs, and next to each of them, and to the powers of 2, some that lie as near as may be.
func rising() []api.Dyad {
	list := append(bothSigns(amounts()), api.Dyad{})
	for n := -20; n < 14; n++ {
		for _, near := range []int{5, 20, 40, 41, 42, 43, 60, 100, 200} {
			for _, side := range []api.Dyad{of(1, n-near), less(of(1, n-near)), {}} {
				list = append(list, bothSigns([]api.Dyad{sum(of(1, n), side)})...)
			}
		}
	}
	slices.SortFunc(list, func(a, b api.Dyad) int {
		order, _ := dyad.Cmp(a, b)
		return cmp.Compare(order, 0)
	})
	return slices.CompactFunc(list, func(a, b api.Dyad) bool {
		order, _ := dyad.Cmp(a, b)
		return order == 0
	})
}

// P10.5: to the same bits, no number of the one that lies lower is above all of the other one, however near they lie; to others, not all of them are.
func TestRising(t *testing.T) {
	list := rising()
	for _, p := range []int{api.MinBits, 10, 33, 64, 150} {
		was := exp(t, list[0], p)
		coarse := exp(t, list[0], api.MinBits)
		for _, d := range list[1:] {
			v := exp(t, d, p)
			if order, _ := dyad.Cmp(was.Hi, v.Hi); order > 0 {
				t.Errorf("Exp to %d bits falls at %s", p, show(d))
			}
			if order, _ := dyad.Cmp(coarse.Lo, v.Hi); order > 0 {
				t.Errorf("Exp to %d bits lies below that to %d at %s", p, api.MinBits, show(d))
			}
			was, coarse = v, exp(t, d, api.MinBits)
		}
	}
}

// passing are two amounts next to one another of which e to the power of the one, less 1, is told to p bits as up to below 2^k, that of the other one as up to more.
func passing(t *testing.T, k, p int) (below, above api.Dyad) {
	t.Helper()
	below, above = api.Dyad{}, of(1, 7)
	for range p + 80 {
		middle, _ := dyad.Shift(sum(below, above), -1)
		v, why := expcore.Expm1(middle, p)
		if why != api.OK {
			t.Fatalf("Expm1(%s, %d): error %d", show(middle), p, why)
		}
		if order, _ := dyad.Cmp(v.Hi, of(1, k)); order < 0 {
			below = middle
		} else {
			above = middle
		}
	}
	return below, above
}

// P10.5: where one of the ends gets a bit more, neither end falls, of an amount and of less that.
func TestRisingPastPowers(t *testing.T) {
	for _, p := range []int{api.MinBits, 9, 10, 33, 64, 150} {
		for k := -15; k < 100; k += 1 + p/8 {
			below, above := passing(t, k, p)
			for _, pair := range [][2]api.Dyad{{below, above}, {less(above), less(below)}} {
				a, b := exp(t, pair[0], p), exp(t, pair[1], p)
				lo, _ := dyad.Cmp(a.Lo, b.Lo)
				hi, _ := dyad.Cmp(a.Hi, b.Hi)
				if lo > 0 || hi > 0 {
					t.Errorf("Exp to %d bits falls at %s, near 2^%d", p, show(pair[1]), k)
				}
			}
		}
	}
}

// P10.6
func TestMoreBits(t *testing.T) {
	bits := []int{8, 9, 31, 32, 33, 64, 100, 129, 500, 2048}
	for _, d := range some() {
		for _, c := range calls {
			var told []api.Ival
			for i, p := range bits {
				v, why := c.of(d, p)
				for j, w := range told {
					if why != api.OK || !ival.Meets(v, w) {
						t.Errorf("%s(%s) to %d and to %d bits: they do not meet", c.name, show(d), bits[i], bits[j])
					}
				}
				told = append(told, v)
			}
		}
	}
}
