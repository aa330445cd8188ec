package sincore_test

import (
	"math/big"
	"reflect"
	"slices"
	"testing"

	"ulp/api"
	"ulp/dyad"
	"ulp/ival"
	"ulp/probe"
	"ulp/sincore"
)

// some are amounts that are not very near 0.
func some() []api.Dyad {
	return []api.Dyad{of(1, 0), of(3, -2), of(1, -30), of(7, -200), of(1, -1), of(3, -3), of(0x123456789abcdef, -57), {Abs: probe.Filled(3, all), Exp: -192}, sum(of(1, -1), less(of(1, -300)))}
}

// sin is an enclosure that must be answered; cos likewise.
func sin(t *testing.T, d api.Dyad, p int) api.Ival {
	t.Helper()
	v, why := sincore.Sin(d, p)
	if why != api.OK {
		t.Fatalf("Sin(%s, %d): error %d", show(d), p, why)
	}
	return v
}

func cos(t *testing.T, d api.Dyad, p int) api.Ival {
	t.Helper()
	v, why := sincore.Cos(d, p)
	if why != api.OK {
		t.Fatalf("Cos(%s, %d): error %d", show(d), p, why)
	}
	return v
}

// product is that of two enclosures; added, their sum; mirrored, less one.
func product(v, w api.Ival) api.Ival {
	v, _ = ival.Mul(v, w, api.MaxWork)
	return v
}

func added(v, w api.Ival) api.Ival {
	v, _ = ival.Add(v, w, api.MaxWork)
	return v
}

func mirrored(v api.Ival) api.Ival {
	v, _ = ival.Neg(v)
	return v
}

// 13.4
func TestCircle(t *testing.T) {
	for i, d := range append(bothSigns(amounts()), api.Dyad{}) {
		if top, _ := dyad.Top(d); top < -most/2+api.MaxBits {
			continue // the square has no room
		}
		v, w := sin(t, d, someBits[i%len(someBits)]), cos(t, d, someBits[(i+2)%len(someBits)])
		if !ival.Has(added(product(v, v), product(w, w)), of(1, 0)) {
			t.Errorf("the squares of the sine and the cosine of %s do not have 1 between them", show(d))
		}
	}
}

// 13.5
func TestMirror(t *testing.T) {
	for i, d := range bothSigns(amounts()) {
		p, q := someBits[i%len(someBits)], someBits[(i+2)%len(someBits)]
		if !ival.Meets(sin(t, less(d), p), mirrored(sin(t, d, q))) {
			t.Errorf("the sine of less %s at %d bits, and less that at %d, do not meet", show(d), p, q)
		}
		if !ival.Meets(cos(t, less(d), p), cos(t, d, q)) {
			t.Errorf("the cosine of less %s at %d bits, and that at %d, do not meet", show(d), p, q)
		}
	}
}

// 13.6
func TestSums(t *testing.T) {
	list := append(bothSigns(some()), api.Dyad{})
	for i, a := range list {
		for j, b := range list {
			whole := sum(a, b)
			if amount, _ := dyad.Abs(whole); above(amount, of(1, 0)) {
				continue
			}
			p := someBits[(i+j)%len(someBits)]
			sine := added(product(sin(t, a, p), cos(t, b, p)), product(cos(t, a, p), sin(t, b, p)))
			cosine := added(product(cos(t, a, p), cos(t, b, p)), mirrored(product(sin(t, a, p), sin(t, b, p))))
			if !ival.Meets(sine, sin(t, whole, p)) || !ival.Meets(cosine, cos(t, whole, p)) {
				t.Errorf("%s and %s at %d bits: the sum's sine and cosine do not meet what theirs give", show(a), show(b), p)
			}
		}
	}
}

func above(a, b api.Dyad) bool {
	order, _ := dyad.Cmp(a, b)
	return order > 0
}

// 13.7: no sine's enclosure goes beyond the angle, or lies at t - t^3 / 6 or below; no cosine's goes beyond 1, or lies below 1 - t^2 / 2.
func TestBounds(t *testing.T) {
	for i, d := range amounts() {
		p := someBits[i%len(someBits)]
		exact := float(d)
		square := fresh(0).Mul(fresh(2*exact.Prec()).Set(exact), exact)
		cube := fresh(3*exact.Prec()).Mul(square, exact)
		cube.Quo(cube.SetPrec(cube.Prec()+200), big.NewFloat(6))
		wide := uint(1 << 17)
		lowSine := fresh(wide).Sub(exact, cube)
		lowCosine := fresh(wide).Sub(big.NewFloat(1), fresh(0).SetMantExp(square, -1))
		v, w := sin(t, d, p), cos(t, d, p)
		if above(v.Hi, d) || !above(d, v.Lo) || float(v.Hi).Cmp(lowSine) <= 0 {
			t.Errorf("Sin(%s, %d) = %s", show(d), p, showIval(v))
		}
		if above(w.Hi, of(1, 0)) || float(w.Hi).Cmp(lowCosine) < 0 {
			t.Errorf("Cos(%s, %d) = %s", show(d), p, showIval(w))
		}
	}
}

// intervals are right ones from -1 to 1: points, on either side of 0 and on both, with an end of 0, with ends of -1 and 1, wide and narrow.
func intervals() []api.Ival {
	one, tiny, least := of(1, 0), of(1, -900), of(1, -most)
	list := []api.Ival{
		{}, {Hi: one}, {Lo: less(one)}, {Lo: less(one), Hi: one}, {Lo: one, Hi: one}, {Lo: less(one), Hi: less(one)}, {Lo: of(4, -3), Hi: of(4, -2)}, {Lo: less(of(3, -2)), Hi: of(1, -1)}, {Lo: less(of(1, -1)), Hi: of(3, -2)}, {Lo: less(of(1, -1)), Hi: of(1, -1)},
		{Hi: tiny}, {Lo: less(tiny)}, {Lo: less(tiny), Hi: tiny}, {Lo: less(tiny), Hi: one}, {Lo: less(least), Hi: least}, {Lo: least, Hi: tiny}, {Lo: less(one), Hi: less(tiny)}, {Lo: less(one), Hi: sum(tiny, less(one))}, {Lo: sum(one, less(tiny)), Hi: one}, {Lo: api.Dyad{Neg: true, Abs: api.Nat{0}, Exp: 5}, Hi: one},
		{Lo: sum(less(one), of(1, -api.MaxExp)), Hi: sum(one, less(of(1, -api.MaxExp)))},
	}
	for _, d := range some() {
		half, _ := dyad.Shift(d, -1)
		beside := sum(d, less(of(1, -700)))
		list = append(list, api.Ival{Lo: d, Hi: d}, api.Ival{Lo: less(d), Hi: less(d)}, api.Ival{Lo: half, Hi: d}, api.Ival{Lo: less(d), Hi: less(half)}, api.Ival{Lo: beside, Hi: d}, api.Ival{Lo: less(d), Hi: less(beside)}, api.Ival{Lo: less(half), Hi: d}, api.Ival{Lo: less(d), Hi: half})
	}
	return list
}

// checkBoth holds what Both answers against the sines of the ends, and the cosines that are the least and the greatest.
func checkBoth(t *testing.T, v api.Ival, p int) {
	t.Helper()
	sines, cosines, why := sincore.Both(v, p)
	lowSine, atLow := sincos(v.Lo, p)
	highSine, atHigh := sincos(v.Hi, p)
	least, greatest := atLow, atHigh
	if least.Cmp(greatest) > 0 {
		least, greatest = greatest, least
	}
	if float(v.Lo).Sign() <= 0 && float(v.Hi).Sign() >= 0 {
		greatest = fresh(uint(p) + 300).SetInt64(1)
	}
	fits := func(v api.Ival, low, high *big.Float) bool {
		return isForm(v) && atMost(v.Lo, low, p) && atLeast(v.Hi, high, p) && nearTo(v.Lo, low, p) && nearTo(v.Hi, high, p)
	}
	if why != api.OK || !fits(sines, lowSine, highSine) || !fits(cosines, least, greatest) {
		t.Errorf("Both(%s, %d) = %s, %s, error %d", showIval(v), p, showIval(sines), showIval(cosines), why)
	}
}

// 13.2
func TestBoth(t *testing.T) {
	for i, v := range intervals() {
		for j := range 2 {
			checkBoth(t, v, []int{api.MinBits, 53, 64, 300}[(i+j)%4])
		}
	}
	for _, v := range intervals()[:8] {
		checkBoth(t, v, api.MaxCore)
	}
}

// 13.8
func TestInside(t *testing.T) {
	for _, v := range intervals() {
		sines, cosines, _ := sincore.Both(v, 40)
		width, _ := dyad.Sub(v.Hi, v.Lo)
		for n := range 17 {
			part, why := dyad.Mul(width, of(uint64(n), -4))
			if why != api.OK {
				continue
			}
			d := sum(v.Lo, part)
			for _, p := range []int{api.MinBits, 40, 200} {
				if !ival.Meets(sines, sin(t, d, p)) || !ival.Meets(cosines, cos(t, d, p)) {
					t.Errorf("the sine or the cosine of %s at %d bits does not meet Both(%s, 40)", show(d), p, showIval(v))
				}
			}
		}
	}
}

func refusedBoth(t *testing.T, v api.Ival, p int, want api.Errno) {
	t.Helper()
	if sines, cosines, why := sincore.Both(v, p); why != want || !reflect.DeepEqual(sines, api.Ival{}) || !reflect.DeepEqual(cosines, api.Ival{}) {
		t.Errorf("Both of %d words to %d words at %d bits: error %d, want %d", len(v.Lo.Abs), len(v.Hi.Abs), p, why, want)
	}
}

// 13.2: what is wrong by its bits or by itself is refused for that first, what goes beyond 1 or -1 next, even where an end is far.
func TestBothRefused(t *testing.T) {
	one, half := of(1, 0), of(1, -1)
	wrong := []api.Ival{{Lo: one, Hi: half}, {Lo: one}, {Lo: one, Hi: less(one)}, {Hi: less(one)}, {Lo: sum(half, of(1, -api.MaxExp)), Hi: half}, {Lo: of(2, 0), Hi: one}, {Lo: half, Hi: less(of(2, 0))}}
	for _, d := range probe.WrongNumbers() {
		wrong = append(wrong, api.Ival{Lo: d, Hi: one}, api.Ival{Lo: less(one), Hi: d}, api.Ival{Lo: less(d), Hi: d}, api.Ival{Lo: less(of(3, 0)), Hi: d})
	}
	var wide []api.Ival
	for _, d := range beyond() {
		wide = append(wide, api.Ival{Hi: d}, api.Ival{Lo: less(d)}, api.Ival{Lo: less(d), Hi: d}, api.Ival{Lo: d, Hi: d}, api.Ival{Lo: less(d), Hi: less(d)}, api.Ival{Lo: less(one), Hi: d}, api.Ival{Lo: less(d), Hi: one}, api.Ival{Lo: of(1, -api.MaxExp), Hi: d}, api.Ival{Lo: less(d), Hi: less(of(1, -api.MaxExp))})
	}
	for _, p := range []int{api.MinBits, 64, api.MaxCore} {
		for _, v := range wrong {
			refusedBoth(t, v, p, api.ErrRange)
		}
		for _, v := range wide {
			refusedBoth(t, v, p, api.ErrWhole)
		}
	}
	for _, p := range wrongBits {
		for _, v := range slices.Concat(wrong, wide, intervals()[:4]) {
			refusedBoth(t, v, p, api.ErrRange)
		}
	}
}

// 13.2: ends that are far are told rightly or refused.
func TestBothFar(t *testing.T) {
	for _, d := range far() {
		for _, v := range []api.Ival{{Lo: d, Hi: d}, {Lo: less(d), Hi: d}, {Hi: d}, {Lo: less(d)}, {Lo: d, Hi: of(1, 0)}, {Lo: less(of(1, -1)), Hi: d}} {
			sines, cosines, why := sincore.Both(v, 64)
			if why == api.ErrMany && reflect.DeepEqual(sines, api.Ival{}) && reflect.DeepEqual(cosines, api.Ival{}) {
				continue
			}
			checkBoth(t, v, 64)
		}
	}
}
