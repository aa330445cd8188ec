package hyper_test

import (
	"math"
	"slices"
	"testing"

	"ulp/api"
	"ulp/bits"
	"ulp/dyad"
	"ulp/expcore"
	"ulp/hyper"
	"ulp/ival"
)

// enclosed is an enclosure that must be answered; both are two.
func enclosed(t *testing.T, f api.Func, x uint64, p int) api.Ival {
	t.Helper()
	v, why := hyper.Enclose(f, x, p)
	if why != api.OK {
		t.Fatalf("Enclose(%d, %x, %d): error %d", f, x, p, why)
	}
	return v
}

func both(t *testing.T, d api.Dyad, p int) (sine, cosine api.Ival) {
	t.Helper()
	sine, cosine, why := hyper.Both(d, p)
	if why != api.OK {
		t.Fatalf("Both(%s, %d): error %d", show(d), p, why)
	}
	return sine, cosine
}

// product is that of two enclosures; quotient, sum and less likewise.
func product(v, w api.Ival) api.Ival {
	v, _ = ival.Mul(v, w, api.MaxWork)
	return v
}

func quotient(v, w api.Ival) api.Ival {
	v, _ = ival.Div(v, w, api.MaxWork)
	return v
}

func added(v, w api.Ival) api.Ival {
	v, _ = ival.Add(v, w, api.MaxWork)
	return v
}

func mirrored(v api.Ival) api.Ival {
	v, _ = ival.Neg(v)
	return v
}

func isAbove(a, b api.Dyad) bool {
	order, _ := dyad.Cmp(a, b)
	return order > 0
}

// P20.4: also of enclosures to different bits.
func TestHyperbola(t *testing.T) {
	for i, x := range domain(api.FuncSinh) {
		p, q, r := few[i%len(few)], few[(i+2)%len(few)], few[(i+3)%len(few)]
		sine, cosine, tangent := enclosed(t, api.FuncSinh, x, p), enclosed(t, api.FuncCosh, x, q), enclosed(t, api.FuncTanh, x, r)
		if !ival.Has(added(product(cosine, cosine), mirrored(product(sine, sine))), of(1, 0)) {
			t.Errorf("the square of the cosine of %x less that of the sine does not have 1 in it", x)
		}
		if !ival.Meets(product(tangent, cosine), sine) {
			t.Errorf("the tangent of %x times the cosine does not meet the sine", x)
		}
	}
}

// P20.4: of dyadic numbers.
func TestHyperbolaOfBoth(t *testing.T) {
	for i, d := range either(numbers()) {
		if top, _ := dyad.Top(d); top < least/2+api.MaxBits {
			continue // the square has no room
		}
		sine, cosine := both(t, d, few[i%len(few)])
		if !ival.Has(added(product(cosine, cosine), mirrored(product(sine, sine))), of(1, 0)) {
			t.Errorf("the square of the cosine of %s less that of the sine does not have 1 in it", show(d))
		}
	}
}

// P20.5
func TestMirror(t *testing.T) {
	for _, f := range six {
		for i, x := range domain(f) {
			if f == api.FuncAcosh {
				continue
			}
			p, q := few[i%len(few)], few[(i+2)%len(few)]
			want := enclosed(t, f, x, q)
			if f != api.FuncCosh {
				want = mirrored(want)
			}
			if !ival.Meets(enclosed(t, f, bits.Neg(x), p), want) {
				t.Errorf("function %d of less %x to %d bits does not meet what that of it to %d gives", f, x, p, q)
			}
		}
	}
	for i, d := range numbers() {
		sine, cosine := both(t, less(d), few[i%len(few)])
		other, along := both(t, d, few[(i+2)%len(few)])
		if !ival.Meets(sine, mirrored(other)) || !ival.Meets(cosine, along) {
			t.Errorf("sine and cosine of less %s do not meet those of it", show(d))
		}
	}
}

// P20.6
func TestPowerOfE(t *testing.T) {
	for i, d := range append(either(numbers()), api.Dyad{}) {
		p, q := few[i%len(few)], few[(i+2)%len(few)]
		sine, cosine := both(t, d, p)
		power, why := expcore.Exp(d, q)
		if why != api.OK || !ival.Meets(added(sine, cosine), power) {
			t.Errorf("sine and cosine of %s to %d bits, added, do not meet e's power to %d: error %d", show(d), p, q, why)
		}
	}
}

// P20.6: and the cosine likewise.
func TestSums(t *testing.T) {
	list := append(either([]api.Dyad{of(1, 0), of(3, -2), of(1, -30), of(7, -200), of(11, 0), of(700, 0), of(5500, 0), of(0x123456789abcdef, -50), sum(of(1, -1), less(of(1, -300)))}), api.Dyad{})
	for i, a := range list {
		for j, b := range list {
			p := few[(i+j)%len(few)]
			sineA, cosineA := both(t, a, p)
			sineB, cosineB := both(t, b, p)
			sine, cosine := both(t, sum(a, b), p)
			if !ival.Meets(sine, added(product(sineA, cosineB), product(cosineA, sineB))) {
				t.Errorf("%s and %s to %d bits: the sum's sine does not meet what theirs give", show(a), show(b), p)
			}
			if !ival.Meets(cosine, added(product(cosineA, cosineB), product(sineA, sineB))) {
				t.Errorf("%s and %s to %d bits: the sum's cosine does not meet what theirs give", show(a), show(b), p)
			}
		}
	}
}

// put is the sine, the cosine, the tangent of a number: that of which a function is the inverse.
func put(t *testing.T, f api.Func, d api.Dyad, p int) api.Ival {
	t.Helper()
	sine, cosine := both(t, d, p)
	switch f {
	case api.FuncAsinh:
		return sine
	case api.FuncAcosh:
		return cosine
	default:
		return quotient(sine, cosine)
	}
}

// P20.7
func TestBack(t *testing.T) {
	for _, f := range six[3:] {
		for i, x := range domain(f) {
			p, q := few[i%len(few)], few[(i+3)%len(few)]
			v := enclosed(t, f, x, p)
			low, high := put(t, f, v.Lo, q), put(t, f, v.Hi, q)
			if isAbove(low.Lo, number(x)) || isAbove(number(x), high.Hi) {
				t.Errorf("what the ends of function %d of %x to %d bits are put to does not have it between", f, x, p)
			}
		}
	}
}

// P20.8: of x above 0; no number of an enclosure lies beyond the bound, and the value itself does not lie at it.
func TestBounds(t *testing.T) {
	unit := of(1, 0)
	for _, x := range amounts() {
		for _, p := range append([]int{700}, few[:6]...) {
			for _, f := range six {
				if !inside(f, x) {
					continue
				}
				v, wrong := enclosed(t, f, x, p), false
				switch d := number(x); f {
				case api.FuncTanh:
					wrong = isAbove(v.Hi, unit) || isAbove(v.Hi, d) || !isAbove(unit, v.Lo) || !isAbove(d, v.Lo)
				case api.FuncAsinh:
					wrong = isAbove(v.Hi, d) || !isAbove(d, v.Lo)
				case api.FuncSinh, api.FuncAtanh:
					wrong = isAbove(d, v.Lo) || !isAbove(v.Hi, d)
				case api.FuncCosh:
					wrong = isAbove(unit, v.Lo) || !isAbove(v.Hi, unit)
				}
				if wrong {
					t.Errorf("Enclose(%d, %x, %d) goes beyond its bound: %s", f, x, p, showIval(v))
				}
			}
		}
	}
}

// P20.8: of numbers below 0 the amounts keep to the bounds.
func TestBoundsBelowZero(t *testing.T) {
	for i, x := range amounts() {
		p := few[i%len(few)]
		for _, f := range odds {
			if !inside(f, x) {
				continue
			}
			v, d := mirrored(enclosed(t, f, bits.Neg(x), p)), number(x)
			above := f == api.FuncSinh || f == api.FuncAtanh
			if above && isAbove(d, v.Lo) || !above && isAbove(v.Hi, d) {
				t.Errorf("Enclose(%d, %x, %d) goes beyond its bound: less %s", f, bits.Neg(x), p, showIval(v))
			}
		}
	}
}

// P20.8: of dyadic numbers.
func TestBoundsOfBoth(t *testing.T) {
	for i, d := range numbers() {
		p := few[i%len(few)]
		sine, cosine := both(t, d, p)
		other, along := both(t, less(d), p)
		if isAbove(d, sine.Lo) || isAbove(d, mirrored(other).Lo) || isAbove(of(1, 0), cosine.Lo) || isAbove(of(1, 0), along.Lo) {
			t.Errorf("Both(%s, %d) goes beyond its bounds: %s, %s", show(d), p, showIval(sine), showIval(cosine))
		}
	}
}

// rising are numbers of which a function has a value, in their order, with many neighbours.
func rising(f api.Func) []uint64 {
	list := domain(f)
	for _, n := range []float64{0.5, 1, 3, math.Ldexp(1, -30), 8192, 600} {
		for i := range uint64(8) {
			list = append(list, bothSigns([]uint64{math.Float64bits(n) + i, math.Float64bits(n) - i})...)
		}
	}
	list = slices.DeleteFunc(list, func(x uint64) bool { return x == minusZero || !inside(f, x) })
	slices.SortFunc(list, bits.Order)
	return slices.Compact(list)
}

// P20.8: also of enclosures to different bits.
func TestRising(t *testing.T) {
	for _, f := range six {
		if f == api.FuncCosh {
			continue
		}
		list := rising(f)
		for _, p := range []int{api.MinBits, 33, 64} {
			was, fine := enclosed(t, f, list[0], p), enclosed(t, f, list[0], 150)
			for _, x := range list[1:] {
				v := enclosed(t, f, x, p)
				if isAbove(was.Lo, v.Hi) || isAbove(fine.Lo, v.Hi) {
					t.Errorf("function %d to %d bits falls at %x", f, p, x)
				}
				was, fine = v, enclosed(t, f, x, 150)
			}
		}
	}
}

// besidePowers are numbers of which e's power has nearly as few bits as are reckoned with, with their neighbours: there what is cut off changes most.
func besidePowers() []uint64 {
	var list []uint64
	for n := 18; n <= 26; n++ {
		for k := 1; k < 1<<n; k += 1 + k/2 {
			x := math.Float64bits(math.Log1p(math.Ldexp(float64(k), -n)))
			for i := range uint64(4) {
				list = append(list, x+i, x-i)
			}
		}
	}
	return list
}

// P20.8: neither end of sine and tangent falls, however near the numbers lie; and none of the cosine does from 0 on.
func TestEndsRise(t *testing.T) {
	for _, f := range six[:3] {
		list := append(rising(f), besidePowers()...)
		if f == api.FuncCosh {
			list = slices.DeleteFunc(list, func(x uint64) bool { return x >= minusZero })
		}
		slices.SortFunc(list, bits.Order)
		for _, p := range []int{api.MinBits, 33, 64} {
			was := enclosed(t, f, list[0], p)
			for _, x := range list[1:] {
				v := enclosed(t, f, x, p)
				if isAbove(was.Lo, v.Lo) || isAbove(was.Hi, v.Hi) {
					t.Errorf("an end of function %d to %d bits falls at %x", f, p, x)
				}
				was = v
			}
		}
	}
}
