package invtrig_test

import (
	"math"
	"slices"
	"testing"

	"ulp/api"
	"ulp/bits"
	"ulp/consts"
	"ulp/dyad"
	"ulp/invtrig"
	"ulp/ival"
	"ulp/sincore"
)

// enclosed is an enclosure that must be answered; seen likewise.
func enclosed(t *testing.T, f api.Func, x uint64, p int) api.Ival {
	t.Helper()
	v, why := invtrig.Enclose(f, x, p)
	if why != api.OK {
		t.Fatalf("Enclose(%d, %x, %d): error %d", f, x, p, why)
	}
	return v
}

func seen(t *testing.T, f api.Func, y, x uint64, p int) api.Ival {
	t.Helper()
	v, why := invtrig.Enclose2(f, y, x, p)
	if why != api.OK {
		t.Fatalf("Enclose2(%d, %x, %x, %d): error %d", f, y, x, p, why)
	}
	return v
}

// added are two enclosures, added; mirrored, less one.
func added(v, w api.Ival) api.Ival {
	v, _ = ival.Add(v, w, api.MaxWork)
	return v
}

func mirrored(v api.Ival) api.Ival {
	v, _ = ival.Neg(v)
	return v
}

// halfTurn is pi, or 1 of half turns.
func halfTurn(inTurns bool, p int) api.Ival {
	if inTurns {
		return api.Ival{Lo: of(1, 0), Hi: of(1, 0)}
	}
	v, _ := consts.Const(api.ConstPi, p)
	return v
}

// 19.4: also of enclosures to different bits.
func TestTogether(t *testing.T) {
	for _, c := range []struct {
		sine, cosine api.Func
		turns        bool
	}{{api.FuncAsin, api.FuncAcos, false}, {api.FuncAsinpi, api.FuncAcospi, true}} {
		for i, x := range domain(c.sine) {
			p, q := few[i%len(few)], few[(i+2)%len(few)]
			right, _ := ival.Scale(halfTurn(c.turns, few[(i+3)%len(few)]), -1)
			if !ival.Meets(added(enclosed(t, c.sine, x, p), enclosed(t, c.cosine, x, q)), right) {
				t.Errorf("functions %d and %d of %x to %d and %d bits do not add up to a right angle", c.sine, c.cosine, x, p, q)
			}
		}
	}
}

// timesPi is an enclosure, multiplied by pi.
func timesPi(v api.Ival, p int) api.Ival {
	v, _ = ival.Mul(v, halfTurn(false, p), api.MaxWork)
	return v
}

// 19.5
func TestHalfTurns(t *testing.T) {
	for n, f := range six[:3] {
		for i, x := range domain(f) {
			p, q := few[i%len(few)], few[(i+2)%len(few)]
			if !ival.Meets(timesPi(enclosed(t, six[n+3], x, p), q), enclosed(t, f, x, q)) {
				t.Errorf("function %d of %x to %d bits, times pi, does not meet function %d to %d", six[n+3], x, p, f, q)
			}
		}
	}
	for i, at := range points() {
		p, q := few[i%len(few)], few[(i+2)%len(few)]
		if !ival.Meets(timesPi(seen(t, api.FuncAtan2pi, at.y, at.x, p), q), seen(t, api.FuncAtan2, at.y, at.x, q)) {
			t.Errorf("the angle of %x, %x in half turns to %d bits, times pi, does not meet that in radians to %d", at.x, at.y, p, q)
		}
	}
}

// 19.6
func TestMirror(t *testing.T) {
	for n, f := range six {
		for i, x := range domain(f) {
			p, q := few[i%len(few)], few[(i+2)%len(few)]
			want := mirrored(enclosed(t, f, x, p))
			if f == api.FuncAcos || f == api.FuncAcospi {
				want = added(halfTurn(n >= 3, q), want)
			}
			if !ival.Meets(enclosed(t, f, bits.Neg(x), q), want) {
				t.Errorf("function %d of less %x to %d bits does not meet what that of it to %d gives", f, x, q, p)
			}
		}
	}
}

// within tells whether a number is from -1 to 1.
func within(d api.Dyad) bool { return ival.Has(api.Ival{Lo: less(of(1, 0)), Hi: of(1, 0)}, d) }

// 19.7
func TestBack(t *testing.T) {
	count := 0
	for i, x := range domain(api.FuncAsin) {
		p, q := few[i%len(few)], few[(i+3)%len(few)]
		v := enclosed(t, api.FuncAsin, x, p)
		if !within(v.Lo) || !within(v.Hi) {
			continue
		}
		count++
		low, why := sincore.Sin(v.Lo, q)
		high, whyToo := sincore.Sin(v.Hi, q)
		if why != api.OK || whyToo != api.OK || isAbove(low.Lo, number(x)) || isAbove(number(x), high.Hi) {
			t.Errorf("the sines of the ends of the arc sine of %x to %d bits do not have it between: errors %d, %d", x, p, why, whyToo)
		}
	}
	if count < 400 {
		t.Errorf("only %d numbers were looked at", count)
	}
}

func isAbove(a, b api.Dyad) bool {
	order, _ := dyad.Cmp(a, b)
	return order > 0
}

// 19.8: where y is x times a binary64.
func TestQuotients(t *testing.T) {
	count := 0
	for i, slope := range amounts() {
		for j, x := range []uint64{one, 0x4008000000000000, 0x3ff8000000000000, 0x0010000000000000, 0x7fe0000000000000, 1, 0x4059000000000000} {
			product, _ := dyad.Mul(number(slope), number(x))
			y, is := dyad.To(product)
			if !is {
				continue
			}
			count++
			p, q := few[i%len(few)], few[(i+j)%len(few)]
			for n, f := range two {
				if !ival.Meets(seen(t, f, y, x, p), enclosed(t, six[2+3*n], slope, q)) {
					t.Errorf("the angle of %x, %x to %d bits does not meet the arc tangent of %x to %d", x, y, p, slope, q)
				}
			}
		}
	}
	if count < 500 {
		t.Errorf("only %d points were looked at", count)
	}
}

// 19.8: of -y, y other than 0; of y and -x, y above 0.
func TestMirroredPoints(t *testing.T) {
	for n, f := range two {
		for i, at := range points() {
			p, q := few[i%len(few)], few[(i+2)%len(few)]
			v := seen(t, f, at.y, at.x, p)
			if bits.Abs(at.y) != 0 && !ival.Meets(seen(t, f, bits.Neg(at.y), at.x, q), mirrored(v)) {
				t.Errorf("function %d of the point %x, less %x to %d bits does not meet less that of it to %d", f, at.x, at.y, q, p)
			}
			above := isAbove(number(at.y), api.Dyad{})
			if above && !ival.Meets(seen(t, f, at.y, bits.Neg(at.x), q), added(halfTurn(n == 1, q), mirrored(v))) {
				t.Errorf("function %d of the point less %x, %x to %d bits does not meet half a turn less that of it to %d", f, at.x, at.y, q, p)
			}
		}
	}
}

// rising are numbers of which a function has a value, in their order, with many neighbours.
func rising(f api.Func) []uint64 {
	list := domain(f)
	for _, n := range []float64{0.5, math.Sqrt2 / 2, 0.25, 0.99, math.Ldexp(1, -30)} {
		for i := range uint64(8) {
			list = append(list, bothSigns([]uint64{math.Float64bits(n) + i, math.Float64bits(n) - i})...)
		}
	}
	list = slices.DeleteFunc(list, func(x uint64) bool { return x == minusZero })
	slices.SortFunc(list, bits.Order)
	return slices.Compact(list)
}

// 19.9: however near the numbers lie, neither end goes the other way; and of enclosures to different bits no Lo lies above what comes behind it.
func TestRising(t *testing.T) {
	for _, f := range six {
		list := rising(f)
		if f == api.FuncAcos || f == api.FuncAcospi {
			slices.Reverse(list)
		}
		for _, p := range []int{api.MinBits, 33, 64} {
			was, fine := enclosed(t, f, list[0], p), enclosed(t, f, list[0], 150)
			for _, x := range list[1:] {
				v := enclosed(t, f, x, p)
				if isAbove(was.Lo, v.Lo) || isAbove(was.Hi, v.Hi) || isAbove(fine.Lo, v.Hi) {
					t.Errorf("function %d to %d bits turns at %x", f, p, x)
				}
				was, fine = v, enclosed(t, f, x, 150)
			}
		}
	}
}

// 19.9: where enclosures are narrow enough, those of neighbours lie apart.
func TestApart(t *testing.T) {
	for _, f := range six {
		for _, x := range []uint64{1, leastNorm, 0x3fb999999999999a, 0x3fe0000000000000, one - 2} {
			low, high := enclosed(t, f, x, api.MaxBits), enclosed(t, f, x+1, api.MaxBits)
			if f == api.FuncAcos || f == api.FuncAcospi {
				low, high = high, low
			}
			if !isAbove(high.Lo, low.Hi) {
				t.Errorf("function %d of %x and of the next number cannot be told apart", f, x)
			}
		}
	}
}
