package trig_test

import (
	"math"
	"slices"
	"testing"

	"ulp/api"
	"ulp/bits"
	"ulp/dyad"
	"ulp/ival"
	"ulp/trig"
)

// enclosed is an enclosure that must be answered; both are two.
func enclosed(t *testing.T, f api.Func, x uint64, p int) api.Ival {
	t.Helper()
	v, why := trig.Enclose(f, x, p)
	if why != api.OK {
		t.Fatalf("Enclose(%d, %x, %d): error %d", f, x, p, why)
	}
	return v
}

func both(t *testing.T, d api.Dyad, p int) (sine, cosine api.Ival) {
	t.Helper()
	sine, cosine, why := trig.Both(d, p)
	if why != api.OK {
		t.Fatalf("Both(%s, %d): error %d", show(d), p, why)
	}
	return sine, cosine
}

// product is that of two enclosures; added, their sum; mirrored, less one; twice, two of it.
func product(v, w api.Ival) api.Ival {
	v, _ = ival.Mul(v, w, api.MaxWork)
	return v
}

func added(v, w api.Ival) api.Ival {
	v, _ = ival.Add(v, w, api.MaxWork)
	return v
}

func mirrored(v api.Ival) api.Ival {
	v, _ = ival.Neg(v)
	return v
}

func twice(v api.Ival) api.Ival {
	v, _ = ival.Scale(v, 1)
	return v
}

func one() api.Ival { return api.Ival{Lo: of(1, 0), Hi: of(1, 0)} }

// finite are numbers of all kinds, of either sign.
func finite() []uint64 {
	return append(bothSigns(slices.Concat(amounts(), besideMultiples())), 0, minusZero)
}

// 17.4: also of enclosures to different bits.
func TestCircle(t *testing.T) {
	for i, x := range finite() {
		p, q, r := few[i%len(few)], few[(i+2)%len(few)], few[(i+3)%len(few)]
		sine, cosine, tangent := enclosed(t, api.FuncSin, x, p), enclosed(t, api.FuncCos, x, q), enclosed(t, api.FuncTan, x, r)
		if !ival.Has(added(product(sine, sine), product(cosine, cosine)), of(1, 0)) {
			t.Errorf("the squares of the sine and the cosine of %x, added, do not have 1 in them", x)
		}
		if !ival.Meets(product(tangent, cosine), sine) {
			t.Errorf("the tangent of %x times the cosine does not meet the sine", x)
		}
	}
}

// 17.4: of dyadic numbers.
func TestCircleOfBoth(t *testing.T) {
	for i, d := range either(angles()) {
		if top, _ := dyad.Top(d); top < least/2+api.MaxBits {
			continue // the square has no room
		}
		sine, cosine := both(t, d, few[i%len(few)])
		if !ival.Has(added(product(sine, sine), product(cosine, cosine)), of(1, 0)) {
			t.Errorf("the squares of the sine and the cosine of %s, added, do not have 1 in them", show(d))
		}
	}
}

// 17.5
func TestMirror(t *testing.T) {
	for i, x := range finite() {
		p, q := few[i%len(few)], few[(i+2)%len(few)]
		for _, f := range three {
			v, w := enclosed(t, f, bits.Neg(x), p), enclosed(t, f, x, q)
			if f != api.FuncCos {
				w = mirrored(w)
			}
			if !ival.Meets(v, w) {
				t.Errorf("function %d of less %x to %d bits does not meet that of it to %d", f, x, p, q)
			}
		}
	}
	for i, d := range angles() {
		sine, cosine := both(t, less(d), few[i%len(few)])
		other, along := both(t, d, few[(i+2)%len(few)])
		if !ival.Meets(sine, mirrored(other)) || !ival.Meets(cosine, along) {
			t.Errorf("sine and cosine of less %s do not meet those of it", show(d))
		}
	}
}

// 17.6
func TestTwice(t *testing.T) {
	count := 0
	for i, x := range finite() {
		y, is := dyad.To(times(number(x), of(2, 0)))
		if !is {
			continue
		}
		count++
		p := few[i%len(few)]
		sine, cosine := enclosed(t, api.FuncSin, x, p), enclosed(t, api.FuncCos, x, p)
		if !ival.Meets(enclosed(t, api.FuncSin, y, p), twice(product(sine, cosine))) {
			t.Errorf("the sine of twice %x to %d bits does not meet 2 sin x cos x", x, p)
		}
		if !ival.Meets(enclosed(t, api.FuncCos, y, p), added(one(), mirrored(twice(product(sine, sine))))) {
			t.Errorf("the cosine of twice %x to %d bits does not meet 1 - 2 sin x sin x", x, p)
		}
	}
	if count < 500 {
		t.Errorf("only %d numbers were looked at", count)
	}
}

// 17.7: and the cosine likewise.
func TestSums(t *testing.T) {
	list := append(either([]api.Dyad{of(1, 0), of(3, -2), of(1, -30), of(7, -200), of(11, 0), of(884279719003555, -48), of(884279719003555, -49), of(0x123456789abcdef, 100), of(1, 1022), of(0x1fffffffffffff, 970), sum(of(1, -1), less(of(1, -300)))}), api.Dyad{})
	for i, a := range list {
		for j, b := range list {
			p := few[(i+j)%len(few)]
			sineA, cosineA := both(t, a, p)
			sineB, cosineB := both(t, b, p)
			sine, cosine := both(t, sum(a, b), p)
			if !ival.Meets(sine, added(product(sineA, cosineB), product(cosineA, sineB))) {
				t.Errorf("%s and %s to %d bits: the sum's sine does not meet what theirs give", show(a), show(b), p)
			}
			if !ival.Meets(cosine, added(product(cosineA, cosineB), mirrored(product(sineA, sineB)))) {
				t.Errorf("%s and %s to %d bits: the sum's cosine does not meet what theirs give", show(a), show(b), p)
			}
		}
	}
}

func isAbove(a, b api.Dyad) bool {
	order, _ := dyad.Cmp(a, b)
	return order > 0
}

// 17.8: no number of an enclosure lies beyond 1 or -1.
func TestBounds(t *testing.T) {
	unit := api.Ival{Lo: less(of(1, 0)), Hi: of(1, 0)}
	for _, x := range finite() {
		for _, p := range []int{api.MinBits, 53, 100} {
			for _, f := range three[:2] {
				if v := enclosed(t, f, x, p); !ival.Within(v, unit) {
					t.Errorf("Enclose(%d, %x, %d) = %s", f, x, p, showIval(v))
				}
			}
		}
	}
	for i, d := range either(angles()) {
		sine, cosine := both(t, d, few[i%len(few)])
		if !ival.Within(sine, unit) || !ival.Within(cosine, unit) {
			t.Errorf("Both(%s, %d) = %s, %s", show(d), few[i%len(few)], showIval(sine), showIval(cosine))
		}
	}
}

// besideAngle tells whether a sine's enclosure lies below an angle above 0, and above what the angle is less a sixth of its third power, with all its numbers.
func besideAngle(sine api.Ival, angle api.Dyad) bool {
	cube := times(times(angle, angle), angle)
	low := sum(times(angle, of(6, 0)), less(cube))
	return isAbove(angle, sine.Hi) && isAbove(times(sine.Lo, of(6, 0)), low)
}

// 17.8: of numbers from 2^-26 down; of those below 0 the amounts.
func TestNearZero(t *testing.T) {
	list := []uint64{0x3e50000000000000, 0x3e4fffffffffffff, 0x3e48000000000000, 0x3c00000000000003, 3, 6, 9, 0x000c000000000000}
	for _, x := range amounts() {
		if math.Float64frombits(x) <= math.Ldexp(1, -26) {
			list = append(list, x)
		}
	}
	for _, x := range list {
		for _, p := range []int{api.MinBits, 53, 64, 200, api.MaxBits} {
			above, below := enclosed(t, api.FuncSin, x, p), enclosed(t, api.FuncSin, bits.Neg(x), p)
			if !besideAngle(above, number(x)) || !besideAngle(mirrored(below), number(x)) {
				t.Errorf("the sine of %x to %d bits: %s, of less that %s", x, p, showIval(above), showIval(below))
			}
		}
	}
}

// 17.8: of dyadic numbers, of few bits and of many; where x^3 / 6 has no room, the sine is no more than x.
func TestBothNearZero(t *testing.T) {
	for _, d := range []api.Dyad{of(1, -26), of(1, -27), sum(of(1, -26), less(of(1, -api.MaxExp))), sum(of(1, -27), of(1, -9000)), sum(of(1, -300), of(1, -10000)), sum(of(1, -1500), less(of(1, -9000))), of(1, -1000), of(3, -1100), of(1, -3000), of(5, -4000)} {
		for _, p := range []int{api.MinBits, 64, api.MaxBits} {
			sine, _ := both(t, d, p)
			other, _ := both(t, less(d), p)
			if !nearly(d, sine) || !nearly(d, mirrored(other)) {
				t.Errorf("Both(%s, %d): the sine is %s, of less that %s", show(d), p, showIval(sine), showIval(other))
			}
		}
	}
	for _, d := range []api.Dyad{of(1, -7000), of(3, -12000), of(1, least)} {
		sine, _ := both(t, d, 64)
		if isAbove(sine.Hi, d) || !isAbove(d, sine.Lo) {
			t.Errorf("Both(%s, 64): the sine is %s", show(d), showIval(sine))
		}
	}
}

// nearly is besideAngle, reckoned with as many bits as it takes: the third power of an angle of many bits has no room.
func nearly(angle api.Dyad, sine api.Ival) bool {
	const prec = 1 << 18
	x := fresh(prec).Set(float(angle))
	cube := fresh(prec).Mul(x, x)
	cube.Mul(cube, x)
	low := fresh(prec).Mul(x, fresh(prec).SetInt64(6))
	low.Sub(low, cube)
	return float(sine.Hi).Cmp(x) < 0 && fresh(prec).Mul(float(sine.Lo), fresh(prec).SetInt64(6)).Cmp(low) > 0
}
