package expfam_test

import (
	"math"
	"slices"
	"testing"

	"ulp/api"
	"ulp/bits"
	"ulp/dyad"
	"ulp/expfam"
	"ulp/ival"
	"ulp/nat"
)

// enclosed is an enclosure that must be answered.
func enclosed(t *testing.T, f api.Func, x uint64, p int) api.Ival {
	t.Helper()
	v, why := expfam.Enclose(f, x, p)
	if why != api.OK {
		t.Fatalf("Enclose(%d, %x, %d): error %d", f, x, p, why)
	}
	return v
}

// product is that of two enclosures.
func product(v, w api.Ival) api.Ival {
	v, _ = ival.Mul(v, w, api.MaxWork)
	return v
}

// some are numbers of which many have sums that are binary64 numbers.
func some() []uint64 {
	var list []uint64
	for _, x := range []float64{0, 1, 2, 3, 0.5, 0.75, 0.1, 700, 2000, math.Ldexp(1, -30), math.Ldexp(7, -50), math.Ldexp(1, -52), math.Ldexp(1, -53), math.Ldexp(1, -1074), math.Ldexp(3, -1074), math.Ldexp(1, -1022), 0x1.23456789abcdep3} {
		list = append(list, math.Float64bits(x), math.Float64bits(-x))
	}
	return list
}

// 15.4
func TestProducts(t *testing.T) {
	count := 0
	for _, k := range kinds[:3] {
		for _, x := range some() {
			for _, y := range some() {
				z, is := dyad.To(sum(number(x), number(y)))
				if !is {
					continue
				}
				count++
				for _, p := range []int{api.MinBits, 64, 200} {
					if !ival.Meets(product(enclosed(t, k.f, x, p), enclosed(t, k.f, y, p)), enclosed(t, k.f, z, p)) {
						t.Errorf("function %d, %x and %x to %d bits: the powers' product does not meet that of the sum", k.f, x, y, p)
					}
				}
			}
		}
	}
	if count < 1000 {
		t.Errorf("only %d sums were looked at", count)
	}
}

// 15.5
func TestTurnedRound(t *testing.T) {
	for _, k := range kinds[:3] {
		for i, x := range append(amounts(float64(k.reach)), 0) {
			p := few[i%len(few)]
			if !ival.Has(product(enclosed(t, k.f, x, p), enclosed(t, k.f, bits.Neg(x), p)), of(1, 0)) {
				t.Errorf("function %d of %x and of less that to %d bits: 1 is not in the product", k.f, x, p)
			}
		}
	}
}

// 15.6; and less 1 has the exponent's sign.
func TestLessOne(t *testing.T) {
	one := api.Ival{Lo: of(1, 0), Hi: of(1, 0)}
	for i, k := range kinds[:3] {
		for j, x := range append(bothSigns(amounts(float64(k.reach))), 0, minusZero) {
			p, q := few[j%len(few)], few[(j/2)%len(few)]
			less, why := ival.Sub(enclosed(t, k.f, x, p), one, api.MaxWork)
			v := enclosed(t, kinds[i+3].f, x, q)
			if why != api.OK || !ival.Meets(less, v) {
				t.Errorf("function %d of %x, less 1, to %d bits does not meet function %d to %d", k.f, x, p, kinds[i+3].f, q)
			}
			if sign, same := ival.Sign(v); !same || sign != float(number(x)).Sign() {
				t.Errorf("function %d of %x to %d bits has the sign %d, %v", kinds[i+3].f, x, q, sign, same)
			}
		}
	}
}

// 15.7
func TestWholePowersOf2(t *testing.T) {
	list := []int{-16000, -15999, -1075, -1074, -1023, 1023, 1024, 12345, 15999, 16000}
	for n := -1100; n <= 1100; n += 1 + max(n, -n)/40 {
		list = append(list, n)
	}
	for _, n := range list {
		for _, p := range []int{api.MinBits, 64, 300} {
			if !ival.Has(enclosed(t, api.FuncExp2, math.Float64bits(float64(n)), p), of(1, n)) {
				t.Errorf("FuncExp2 of %d to %d bits has 2^%d not in it", n, p, n)
			}
		}
	}
}

// 15.7
func TestWholePowersOf10(t *testing.T) {
	for n := range 28 {
		power, _ := nat.Pow(api.Nat{10}, n)
		for _, p := range []int{api.MinBits, 64, 300, api.MaxBits} {
			if !ival.Has(enclosed(t, api.FuncExp10, math.Float64bits(float64(n)), p), api.Dyad{Abs: power}) {
				t.Errorf("FuncExp10 of %d to %d bits has 10^%d not in it", n, p, n)
			}
		}
	}
}

// rising are binary64 numbers within a bound in their order, with the neighbours of 1/2 and 1, where the way of reckoning may change.
func rising(bound float64) []uint64 {
	list := append(bothSigns(amounts(bound)), 0)
	for _, n := range []float64{0.5, 1, 0.5 / math.Ln2, 1 / math.Ln2, 0.5 / math.Ln10, 1 / math.Ln10} {
		x := math.Float64bits(n)
		for i := range uint64(6) {
			list = append(list, bothSigns([]uint64{x + i, x - i})...)
		}
	}
	slices.SortFunc(list, bits.Order)
	return slices.Compact(list)
}

// 15.8: however near the numbers lie; also of enclosures to different bits.
func TestRising(t *testing.T) {
	for _, k := range kinds {
		list := rising(float64(k.reach))
		for _, p := range []int{api.MinBits, 33, 64} {
			was, fine := enclosed(t, k.f, list[0], p), enclosed(t, k.f, list[0], 150)
			for _, x := range list[1:] {
				v := enclosed(t, k.f, x, p)
				first, _ := dyad.Cmp(was.Lo, v.Hi)
				second, _ := dyad.Cmp(fine.Lo, v.Hi)
				if first > 0 || second > 0 {
					t.Errorf("function %d to %d bits falls at %x", k.f, p, x)
				}
				was, fine = v, enclosed(t, k.f, x, 150)
			}
		}
	}
}

// 15.8: from far below reach on.
func TestRisingFromFarBelow(t *testing.T) {
	for _, k := range kinds[3:] {
		for _, x := range k.beyond() {
			for _, p := range []int{api.MinBits, 64} {
				below := enclosed(t, k.f, bits.Neg(x), p)
				above := enclosed(t, k.f, math.Float64bits(float64(-k.reach)), 2*p)
				if order, _ := dyad.Cmp(below.Lo, above.Hi); order > 0 {
					t.Errorf("function %d to %d bits falls above %x", k.f, p, bits.Neg(x))
				}
			}
		}
	}
}

// 15.9: all numbers of the one enclosure lie below all of the other one, however near 1.
func TestBases(t *testing.T) {
	for i, x := range amounts(4800) {
		for j := range 3 {
			p := few[(i+j)%len(few)]
			two, e, ten := enclosed(t, api.FuncExp2, x, p), enclosed(t, api.FuncExp, x, p), enclosed(t, api.FuncExp10, x, p)
			first, _ := dyad.Cmp(two.Hi, e.Lo)
			second, _ := dyad.Cmp(e.Hi, ten.Lo)
			if first >= 0 || second >= 0 {
				t.Errorf("the powers of %x to %d bits do not rise with the base", x, p)
			}
		}
	}
}
