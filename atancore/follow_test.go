package atancore_test

import (
	"slices"
	"testing"

	"ulp/api"
	"ulp/atancore"
	"ulp/consts"
	"ulp/dyad"
	"ulp/ival"
	"ulp/probe"
)

// some are amounts that are neither very near 0 nor very great.
func some() []api.Dyad {
	return []api.Dyad{of(1, 0), of(3, -1), of(1, -30), of(7, -200), of(8000, 0), of(1, -1), of(3, -3), of(1, 60), of(0x123456789abcdef, -57), {Abs: probe.Filled(3, all), Exp: -190}}
}

// atanOf is an enclosure that must be answered; angleOf likewise.
func atanOf(t *testing.T, d api.Dyad, p int) api.Ival {
	t.Helper()
	v, why := atancore.Atan(d, p)
	if why != api.OK {
		t.Fatalf("Atan(%s, %d): error %d", show(d), p, why)
	}
	return v
}

func angleOf(t *testing.T, y, x api.Dyad, p int) api.Ival {
	t.Helper()
	v, why := atancore.Angle(y, x, p)
	if why != api.OK {
		t.Fatalf("Angle(%s, %s, %d): error %d", show(y), show(x), p, why)
	}
	return v
}

// mirrored is less an enclosure.
func mirrored(v api.Ival) api.Ival {
	v, _ = ival.Neg(v)
	return v
}

// added are two enclosures, added.
func added(v, w api.Ival) api.Ival {
	v, _ = ival.Add(v, w, api.MaxWork)
	return v
}

// halfPi encloses a right angle.
func halfPi(t *testing.T, p int) api.Ival {
	t.Helper()
	v, _ := ival.Scale(angleOf(t, api.Dyad{}, less(of(1, 0)), p), -1)
	return v
}

// P12.3: the amount is at most the tangent's, of all numbers of the enclosure.
func TestOdd(t *testing.T) {
	for i, d := range append(bothSigns(amounts()), api.Dyad{}) {
		p, q := someBits[i%len(someBits)], someBits[(i+2)%len(someBits)]
		v := atanOf(t, d, p)
		if !ival.Meets(mirrored(v), atanOf(t, less(d), q)) {
			t.Errorf("Atan of less %s to %d bits, and less that to %d, do not meet", show(d), q, p)
		}
		if sign, same := ival.Sign(v); !same || sign != float(d).Sign() {
			t.Errorf("Atan(%s, %d) has the sign %d, %v", show(d), p, sign, same)
		}
		amount, _ := dyad.Abs(d)
		if !ival.Within(v, api.Ival{Lo: less(amount), Hi: amount}) {
			t.Errorf("Atan(%s, %d) goes beyond the tangent: %s", show(d), p, showIval(v))
		}
	}
}

// P12.4
func TestRightAngle(t *testing.T) {
	for _, p := range []int{api.MinBits, 64, 500} {
		known, _ := consts.Const(api.ConstPi, p)
		if !ival.Meets(known, angleOf(t, api.Dyad{}, less(of(1, 0)), p)) {
			t.Errorf("Angle(0, -1, %d) and pi do not meet", p)
		}
		for n := -200; n <= 200; n++ {
			if !ival.Meets(added(atanOf(t, of(1, n), p), atanOf(t, of(1, -n), p)), halfPi(t, p)) {
				t.Errorf("the angles of 2^%d and 2^%d to %d bits do not add up to a right one", n, -n, p)
			}
		}
	}
}

// P12.5
func TestSums(t *testing.T) {
	one := of(1, 0)
	for _, p := range []int{api.MinBits, 64, 300} {
		for _, a := range bothSigns(some()) {
			for _, b := range bothSigns(some()) {
				product := times(a, b)
				if order, _ := dyad.Cmp(product, one); order >= 0 {
					continue
				}
				whole := angleOf(t, sum(a, b), sum(one, less(product)), p)
				if !ival.Meets(added(atanOf(t, a, p), atanOf(t, b, p)), whole) {
					t.Errorf("the angles of %s and %s to %d bits do not add up", show(a), show(b), p)
				}
			}
		}
	}
}

// P12.6
func TestQuotients(t *testing.T) {
	for i, d := range bothSigns(amounts()) {
		p := someBits[i%len(someBits)]
		for _, x := range []api.Dyad{of(1, 0), of(1, 77), of(1, -500), of(5, 0), {Abs: probe.Filled(2, all), Exp: -9}} {
			y, why := dyad.Mul(d, x)
			if why == api.OK && !ival.Meets(atanOf(t, d, p), angleOf(t, y, x, p)) {
				t.Errorf("Atan(%s) and the angle at x = %s to %d bits do not meet", show(d), show(x), p)
			}
		}
	}
}

// checkPoint: points in the same direction, mirrored, and turned.
func checkPoint(t *testing.T, y, x api.Dyad, p int) {
	t.Helper()
	v := angleOf(t, y, x, p)
	for _, k := range []api.Dyad{of(1, 100), of(3, 0), of(7, -300), {Abs: probe.Filled(2, all), Exp: -128}} {
		if !ival.Meets(v, angleOf(t, times(k, y), times(k, x), p)) {
			t.Errorf("the angles of %s, %s to %d bits, and of %s times that, do not meet", show(y), show(x), p, show(k))
		}
	}
	if !dyad.Zero(y) && !ival.Meets(mirrored(v), angleOf(t, less(y), x, p)) {
		t.Errorf("the mirrored angle of %s, %s to %d bits does not meet", show(y), show(x), p)
	}
	turned := angleOf(t, x, less(y), p)
	above, behind := float(y).Sign() >= 0, float(x).Sign() < 0
	more := halfPi(t, p)
	if above && behind { // past half a turn angles go on from the other side
		more = mirrored(added(more, added(more, more)))
	}
	if !ival.Meets(added(v, more), turned) {
		t.Errorf("the angle of %s, %s to %d bits, turned, is not a right angle more", show(y), show(x), p)
	}
}

// P12.6
func TestPoints(t *testing.T) {
	for i, y := range coordinates() {
		for j, x := range coordinates() {
			if !dyad.Zero(y) || !dyad.Zero(x) {
				checkPoint(t, y, x, someBits[(i+j)%len(someBits)])
			}
		}
	}
}

// rising are numbers in their order: those of both signs, and next to each power of 2 some that lie as near as may be.
func rising() []api.Dyad {
	list := append(bothSigns(amounts()), api.Dyad{})
	for n := -12; n < 12; n++ {
		for _, near := range []int{5, 20, 38, 39, 40, 41, 42, 60, 100, 200} {
			for _, side := range []api.Dyad{of(1, n-near), less(of(1, n-near)), {}} {
				list = append(list, bothSigns([]api.Dyad{sum(of(1, n), side), sum(of(5, n-2), side)})...)
			}
		}
	}
	order := func(a, b api.Dyad) int {
		order, _ := dyad.Cmp(a, b)
		return order
	}
	slices.SortFunc(list, order)
	return slices.CompactFunc(list, func(a, b api.Dyad) bool { return order(a, b) == 0 })
}

// noFall: neither end of Atan, to the same bits, falls from a to b.
func noFall(t *testing.T, a, b api.Dyad, p int) {
	t.Helper()
	v, w := atanOf(t, a, p), atanOf(t, b, p)
	lo, _ := dyad.Cmp(v.Lo, w.Lo)
	hi, _ := dyad.Cmp(v.Hi, w.Hi)
	if lo > 0 || hi > 0 {
		t.Errorf("Atan to %d bits falls from %s to %s", p, show(a), show(b))
	}
}

// P12.7: to the same bits, no number of the one that lies lower is above all of the other one, however near they lie; to others, not all of them are.
func TestRising(t *testing.T) {
	list := rising()
	for _, p := range []int{api.MinBits, 10, 33, 64, 150} {
		for i, d := range list[1:] {
			noFall(t, list[i], d, p)
			if order, _ := dyad.Cmp(atanOf(t, list[i], api.MinBits).Lo, atanOf(t, d, p).Hi); order > 0 {
				t.Errorf("Atan to %d bits lies below that to %d at %s", p, api.MinBits, show(d))
			}
		}
	}
}

// passing are two amounts next to one another of which the angle of the one is told to p bits as up to below a bound, that of the other one as up to it or more.
func passing(t *testing.T, bound api.Dyad, p int) (below, above api.Dyad) {
	t.Helper()
	below, above = api.Dyad{}, of(1, 20)
	for range p + 80 {
		middle, _ := dyad.Shift(sum(below, above), -1)
		if order, _ := dyad.Cmp(atanOf(t, middle, p).Hi, bound); order < 0 {
			below = middle
		} else {
			above = middle
		}
	}
	return below, above
}

// P12.7: where an angle, and so its halves, get a bit more, and where they do not.
func TestRisingPastBounds(t *testing.T) {
	for _, p := range []int{api.MinBits, 9, 10, 33, 64, 150} {
		for n := range 40 {
			for _, bound := range []api.Dyad{of(1, -n), of(3, -n-2), of(uint64(n), -5)} {
				if order, _ := dyad.Cmp(bound, of(3, -1)); order > 0 || dyad.Zero(bound) {
					continue
				}
				below, above := passing(t, bound, p)
				noFall(t, below, above, p)
				noFall(t, less(above), less(below), p)
			}
		}
	}
}

// P12.7: numbers without a pattern, and others that are nearer to them than any bit that is asked for.
func TestRisingClose(t *testing.T) {
	s := probe.Source(8)
	for i := range 4000 {
		p := []int{api.MinBits, 9, 12, 40}[i%4]
		a := api.Dyad{Abs: api.Nat{s.Word() | 1<<63}, Exp: s.Below(30) - 78}
		b := sum(a, of(1, a.Exp+63-p-s.Below(60)))
		noFall(t, a, b, p)
		noFall(t, less(b), less(a), p)
	}
}

// P12.8
func TestMoreBits(t *testing.T) {
	bits := []int{8, 9, 31, 32, 33, 64, 100, 129, 500, 2048}
	meet := func(of func(p int) api.Ival, what string) {
		var told []api.Ival
		for _, p := range bits {
			v := of(p)
			for i, w := range told {
				if !ival.Meets(v, w) {
					t.Errorf("%s to %d and to %d bits: they do not meet", what, p, bits[i])
				}
			}
			told = append(told, v)
		}
	}
	for i, d := range bothSigns(some()) {
		x := bothSigns(some())[(7*i+3)%20]
		meet(func(p int) api.Ival { return atanOf(t, d, p) }, "Atan of "+show(d))
		meet(func(p int) api.Ival { return angleOf(t, d, x, p) }, "Angle of "+show(d)+" and "+show(x))
	}
}
