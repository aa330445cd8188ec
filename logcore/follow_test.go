package logcore_test

import (
	"math/big"
	"reflect"
	"slices"
	"testing"

	"ulp/api"
	"ulp/consts"
	"ulp/dyad"
	"ulp/expcore"
	"ulp/ival"
	"ulp/logcore"
	"ulp/probe"
)

// log is an enclosure that must be answered.
func log(t *testing.T, d api.Dyad, p int) api.Ival {
	t.Helper()
	v, why := logcore.Log(d, p)
	if why != api.OK {
		t.Fatalf("Log(%s, %d): error %d", show(d), p, why)
	}
	return v
}

// some are numbers on both sides of 1, and 1.
func some() []api.Dyad {
	return []api.Dyad{
		of(1, 0), of(2, 0), of(1, -1), of(10, 0), of(3, -1), of(3, -2), of(1, 1000), of(7, -1000), sum(of(1, 0), of(1, -30)), sum(of(1, 0), less(of(1, -30))), sum(of(1, 0), of(1, -900)), of(0x123456789abcdef, -50), {Abs: probe.Filled(3, all), Exp: -192}, {Abs: probe.Filled(3, all), Exp: -100},
	}
}

// 11.4
func TestSums(t *testing.T) {
	for _, p := range []int{api.MinBits, 64, 500} {
		for _, a := range some() {
			for _, b := range some() {
				product, _ := dyad.Mul(a, b)
				both, why := ival.Add(log(t, a, p), log(t, b, p), api.MaxWork)
				if why != api.OK || !ival.Meets(both, log(t, product, p)) {
					t.Errorf("%s and %s at %d bits: the sum does not meet the logarithm of the product", show(a), show(b), p)
				}
			}
		}
	}
}

// 11.4: the logarithms of 2 and 10, as consts has them.
func TestConstants(t *testing.T) {
	for k, n := range map[api.ConstKind]uint64{api.ConstLn2: 2, api.ConstLn10: 10} {
		for _, p := range []int{8, 64, 333, api.MaxCore} {
			known, _ := consts.Const(k, p)
			less1p, _ := logcore.Log1p(of(n-1, 0), p)
			if !ival.Meets(known, log(t, of(n, 0), p)) || !ival.Meets(known, less1p) {
				t.Errorf("the logarithm of %d at %d bits does not meet the constant", n, p)
			}
		}
	}
}

// 11.5
func TestRising(t *testing.T) {
	list := append(aboveZero(), of(1, 0))
	slices.SortFunc(list, func(a, b api.Dyad) int {
		order, _ := dyad.Cmp(a, b)
		return order
	})
	for _, p := range []int{api.MinBits, 33, 64} {
		was, fine := log(t, list[0], p), log(t, list[0], 150)
		for _, d := range list[1:] {
			v := log(t, d, p)
			first, _ := dyad.Cmp(was.Lo, v.Hi)
			second, _ := dyad.Cmp(fine.Lo, v.Hi)
			if first > 0 || second > 0 {
				t.Errorf("Log at %d bits falls at %s", p, show(d))
			}
			was, fine = v, log(t, d, 150)
		}
	}
}

// 11.6
func TestSigns(t *testing.T) {
	for i, d := range append(aboveZero(), of(1, 0)) {
		want, _ := dyad.Cmp(d, of(1, 0))
		p := []int{api.MinBits, 53, 300}[i%3]
		if sign, same := ival.Sign(log(t, d, p)); !same || sign != want {
			t.Errorf("Log(%s, %d) has the sign %d, %v", show(d), p, sign, same)
		}
	}
	for _, x := range nearZero() {
		v, why := logcore.Log1p(x, 20)
		if sign, same := ival.Sign(v); why != api.OK || !same || sign != float(x).Sign() {
			t.Errorf("Log1p(%s, 20) has the sign %d, %v, error %d", show(x), sign, same, why)
		}
	}
}

// 11.7: but for ends so near 0 that expcore may refuse them.
func TestBack(t *testing.T) {
	for i, d := range append(aboveZero(), of(1, 0)) {
		p := []int{api.MinBits, 53, 64, 300}[i%4]
		v := log(t, d, p)
		if top, why := dyad.Top(v.Lo); why == api.OK && top <= -1<<14 {
			continue
		}
		low, why := expcore.Exp(v.Lo, p)
		high, whyToo := expcore.Exp(v.Hi, p)
		below, _ := dyad.Cmp(low.Lo, d)
		above, _ := dyad.Cmp(high.Hi, d)
		if why != api.OK || whyToo != api.OK || below > 0 || above < 0 {
			t.Errorf("e to the power of the ends of Log(%s, %d) has it not between: errors %d, %d", show(d), p, why, whyToo)
		}
	}
}

// Log1p is the logarithm of 1 + x, also where that needs many bits.
func TestBothMeet(t *testing.T) {
	for i, x := range nearZero() {
		p, q := []int{api.MinBits, 53, 300}[i%3], []int{100, 8, 64, 400}[i%4]
		v, why := logcore.Log1p(x, p)
		if why != api.OK || !ival.Meets(v, log(t, sum(x, of(1, 0)), q)) {
			t.Errorf("Log1p(%s, %d) and Log of 1 more do not meet", show(x), p)
		}
	}
}

// Enclosures of one logarithm at different bits.
func TestMoreBits(t *testing.T) {
	bits := []int{8, 9, 31, 32, 33, 64, 100, 129, 500, 2048}
	for _, d := range some() {
		var told []api.Ival
		for _, p := range bits {
			v := log(t, d, p)
			for _, w := range told {
				if !ival.Meets(v, w) {
					t.Errorf("Log(%s) at %d bits and at fewer: they do not meet", show(d), p)
				}
			}
			told = append(told, v)
		}
	}
}

// nearTo tells whether an end lies within 2^-p times its amount of the logarithm of d; the end is 0 where d is 1.
func nearTo(end, d api.Dyad, p int) bool {
	x := logarithm(d, uint(p))
	if x.Sign() == 0 || dyad.Zero(end) {
		return x.Sign() == 0 && reflect.DeepEqual(end, api.Dyad{})
	}
	away := fresh(x.Prec()+uint(p)+200).Sub(float(end), x)
	bound := new(big.Float).Abs(float(end))
	return away.Abs(away).Cmp(bound.SetMantExp(bound, -p)) <= 0
}

// checkOver holds Over against the logarithms of the ends.
func checkOver(t *testing.T, v api.Ival, p int) {
	t.Helper()
	over, why := logcore.Over(v, p)
	if why != api.OK || !isForm(over) {
		t.Errorf("Over(%s, %d): error %d, or not in its one form", showIval(v), p, why)
		return
	}
	low, high := logarithm(v.Lo, uint(p)), logarithm(v.Hi, uint(p))
	if !atMost(over.Lo, low, p) || !atLeast(over.Hi, high, p) || !nearTo(over.Lo, v.Lo, p) || !nearTo(over.Hi, v.Hi, p) {
		t.Errorf("Over(%s, %d) = %s", showIval(v), p, showIval(over))
	}
}

// intervals are right ones above 0: points, with an end of 1, with ends very near 1, round 1, wide and narrow.
func intervals() []api.Ival {
	one, little, least := of(1, 0), of(1, -900), of(1, -1<<14)
	list := []api.Ival{
		{Lo: one, Hi: one}, {Lo: one, Hi: of(2, 0)}, {Lo: of(1, -1), Hi: one}, {Lo: of(4, -2), Hi: of(3, -1)}, {Lo: one, Hi: sum(one, little)}, {Lo: sum(one, less(little)), Hi: one}, {Lo: sum(one, less(little)), Hi: sum(one, little)},
		{Lo: sum(one, less(least)), Hi: sum(one, least)}, {Lo: sum(one, least), Hi: sum(one, of(1, -5000))}, {Lo: of(1, -1074), Hi: of(1, 1024)}, {Lo: of(1, -1<<14), Hi: of(1, 1<<14)}, {Lo: of(3, -2), Hi: of(3, -1)}, {Lo: of(10, 0), Hi: sum(of(10, 0), of(1, -300))},
	}
	for _, d := range some() {
		list = append(list, api.Ival{Lo: d, Hi: d}, api.Ival{Lo: d, Hi: sum(d, of(1, -700))}, api.Ival{Lo: d, Hi: sum(d, of(5, 0))})
	}
	return list
}

// 11.2
func TestOver(t *testing.T) {
	for i, v := range intervals() {
		for j := range 2 {
			checkOver(t, v, []int{api.MinBits, 53, 64, 300}[(i+j)%4])
		}
	}
	checkOver(t, api.Ival{Lo: of(1, -1), Hi: of(10, 0)}, api.MaxCore)
	checkOver(t, api.Ival{Lo: of(1, 0), Hi: sum(of(1, 0), of(1, -1<<14))}, api.MaxCore)
}

// 11.8
func TestInside(t *testing.T) {
	for _, v := range intervals() {
		over, _ := logcore.Over(v, 40)
		width, _ := dyad.Sub(v.Hi, v.Lo)
		for n := range 9 {
			part, _ := dyad.Mul(width, of(uint64(n), -3))
			d := sum(v.Lo, part)
			for _, p := range []int{api.MinBits, 40, 200} {
				if !ival.Meets(over, log(t, d, p)) {
					t.Errorf("the logarithm of %s at %d bits does not meet Over(%s, 40)", show(d), p, showIval(v))
				}
			}
		}
	}
}

func refusedOver(t *testing.T, v api.Ival, p int, want api.Errno) {
	t.Helper()
	if over, why := logcore.Over(v, p); why != want || !reflect.DeepEqual(over, api.Ival{}) {
		t.Errorf("Over of %d words to %d words at %d bits: error %d, want %d", len(v.Lo.Abs), len(v.Hi.Abs), p, why, want)
	}
}

// 11.2: what is wrong by its bits or by itself is refused for that first, what is not above 0 next.
func TestOverRefused(t *testing.T) {
	one, two := of(1, 0), of(2, 0)
	wrong := []api.Ival{{Lo: two, Hi: one}, {Lo: one}, {Lo: one, Hi: less(one)}, {Hi: less(one)}, {Lo: sum(one, of(1, -api.MaxExp)), Hi: one}}
	for _, d := range probe.WrongNumbers() {
		wrong = append(wrong, api.Ival{Lo: d, Hi: two}, api.Ival{Lo: one, Hi: d}, api.Ival{Lo: less(d), Hi: d}, api.Ival{Lo: less(one), Hi: d})
	}
	notAbove := []api.Ival{{}, {Hi: one}, {Lo: less(one), Hi: two}, {Lo: less(two), Hi: less(one)}, {Lo: less(of(1, -api.MaxExp)), Hi: one}, {Lo: api.Dyad{Neg: true, Abs: api.Nat{0}}, Hi: two}, {Lo: less(of(1, api.MaxExp)), Hi: of(1, api.MaxExp)}}
	for _, p := range []int{api.MinBits, 64, api.MaxCore} {
		for _, v := range wrong {
			refusedOver(t, v, p, api.ErrRange)
		}
		for _, v := range notAbove {
			refusedOver(t, v, p, api.ErrWhole)
		}
	}
	for _, p := range wrongBits {
		for _, v := range slices.Concat(wrong, notAbove, intervals()[:4]) {
			refusedOver(t, v, p, api.ErrRange)
		}
	}
}

// 11.2: ends that are far, or so near 1, are told rightly or refused.
func TestOverFar(t *testing.T) {
	for _, d := range append(far(), sum(of(1, 0), of(1, -api.MaxExp)), sum(of(1, 0), less(of(1, -20000)))) {
		for _, v := range []api.Ival{{Lo: d, Hi: d}, {Lo: of(1, -api.MaxExp), Hi: d}} {
			over, why := logcore.Over(v, 64)
			if why == api.ErrMany && reflect.DeepEqual(over, api.Ival{}) {
				continue
			}
			checkOver(t, v, 64)
		}
	}
}
