package power_test

import (
	"math"
	"reflect"
	"testing"

	"ulp/api"
	"ulp/dyad"
	"ulp/ival"
	"ulp/logcore"
	"ulp/power"
	"ulp/probe"
)

// enclosed is an enclosure that must be answered.
func enclosed(t *testing.T, x, y float64, p int) api.Ival {
	t.Helper()
	v, why := power.Enclose2(api.FuncPow, word(x), word(y), p)
	if why != api.OK {
		t.Fatalf("Enclose2(%g, %g, %d): error %d", x, y, p, why)
	}
	return v
}

func product(v, w api.Ival) api.Ival {
	v, _ = ival.Mul(v, w, api.MaxWork)
	return v
}

func isAbove(a, b api.Dyad) bool {
	order, _ := dyad.Cmp(a, b)
	return order > 0
}

// hasFew tells whether a number of few bits lies in an enclosure.
func hasFew(v api.Ival) bool {
	v.Lo.Neg, v.Hi.Neg = false, false
	if isAbove(v.Lo, v.Hi) {
		v.Lo, v.Hi = v.Hi, v.Lo
	}
	up, why := dyad.Cut(v.Lo, api.MaxFew, true)
	return why == api.OK && !isAbove(up, v.Hi)
}

// P22.5: what is told lies in the enclosures; where nothing is told, no number of few bits lies in one to many bits.
func TestExactIsEnclosed(t *testing.T) {
	list := some(within(), 3)
	for n := 1.0; n < 20; n++ {
		for k := 0.25; k < 3; k += 0.25 {
			list = append(list, pair{n * n * n * n, k}, pair{n * n, -k}, pair{-n, math.Trunc(4 * k)}, pair{math.Ldexp(n*n, -40), k})
		}
	}
	told := 0
	for _, c := range list {
		d, is, why := power.Exact(word(c.x), word(c.y))
		if why != api.OK {
			t.Errorf("Exact(%g, %g): error %d", c.x, c.y, why)
			continue
		}
		if !is {
			if p := api.MaxBits; hasFew(enclosed(t, c.x, c.y, 600)) && hasFew(enclosed(t, c.x, c.y, p)) {
				t.Errorf("no value of few bits is told of %g to the power of %g, but one lies in the enclosure to %d bits", c.x, c.y, p)
			}
			continue
		}
		told++
		for _, p := range []int{api.MinBits, 64, 150, 600, api.MaxBits} {
			if !ival.Has(enclosed(t, c.x, c.y, p), d) {
				t.Errorf("Exact(%g, %g) = %s does not lie in the enclosure to %d bits", c.x, c.y, show(d), p)
			}
		}
	}
	if told < 200 {
		t.Error("few are told:", told)
	}
}

// P22.5: of x of at most 14 bits and whole y from 0 to 8; Whole's.
func TestExactIsWhole(t *testing.T) {
	s := probe.Source(51)
	for i := range 2000 {
		x := math.Ldexp(float64(1+s.Below(1<<14-1)), s.Below(2000)-1074)
		if i < 64 {
			x = float64(1<<14 - 1 - i)
		}
		if i%3 == 0 {
			x = -x
		}
		d, _ := dyad.From(word(x))
		for n := range 9 {
			whole, why := power.Whole(d, n)
			if why != api.OK {
				t.Errorf("Whole(%g, %d): error %d", x, n, why)
			}
			known(t, x, float64(n), whole)
		}
	}
}

// P22.6: exponents whose sum is a binary64, exactly; also of enclosures to different bits.
func TestProducts(t *testing.T) {
	parts := []float64{0, 1, -1, 0.5, -0.75, 2, 3.25, 100, -17.5, 0x1p-20, 0x1.8p-10, 1000, 0x1.23456p3, -0x1.23456p3}
	for i, x := range bases() {
		for j, y := range parts {
			for k, z := range parts {
				if isBeyond(x, y, 12000) || isBeyond(x, z, 12000) || isBeyond(x, y+z, 12000) {
					continue
				}
				p, q, r := fewBits[(i+j)%len(fewBits)], fewBits[(i+k)%len(fewBits)], fewBits[(j+k)%len(fewBits)]
				if !ival.Meets(product(enclosed(t, x, y, p), enclosed(t, x, z, q)), enclosed(t, x, y+z, r)) {
					t.Errorf("%g to the powers of %g and %g, multiplied, do not meet that of the sum", x, y, z)
				}
			}
		}
	}
}

// P22.6
func TestSquared(t *testing.T) {
	for i, c := range within() {
		if !hasValue(c.x, 2*c.y) || isBeyond(c.x, 2*c.y, 12000) {
			continue
		}
		p, q := fewBits[i%len(fewBits)], fewBits[(i+2)%len(fewBits)]
		v := enclosed(t, c.x, c.y, p)
		if !ival.Meets(product(v, v), enclosed(t, c.x, 2*c.y, q)) {
			t.Errorf("%g to the power of %g to %d bits, squared, does not meet that of twice the exponent to %d", c.x, c.y, p, q)
		}
	}
}

// P22.7
func TestOver(t *testing.T) {
	for i, c := range within() {
		p, q := fewBits[i%len(fewBits)], fewBits[(i+2)%len(fewBits)]
		if !ival.Has(product(enclosed(t, c.x, c.y, p), enclosed(t, c.x, -c.y, q)), dyad.Int(1)) {
			t.Errorf("%g to the power of %g times that of less the exponent does not have 1 in it", c.x, c.y)
		}
	}
}

// squared is a number squared k times; false, if it has no room.
func squared(d api.Dyad, k int) (api.Dyad, bool) {
	why := api.OK
	for range k {
		if d, why = dyad.Mul(d, d); why != api.OK {
			return api.Dyad{}, false
		}
	}
	return d, true
}

// P22.8
func TestRootAndBack(t *testing.T) {
	told := 0
	for _, d := range append(probe.Numbers(), of(81, 0), of(9, -4), of(1, 64), of(1, -96), of(625, 8)) {
		for k := range 7 {
			amount := d
			amount.Neg = false
			if square, has := squared(d, k); has && k > 0 {
				if r, is, why := power.Root(square, k); why != api.OK || !is || !reflect.DeepEqual(r, canon(amount)) {
					t.Errorf("Root of %s squared %d times = %s, %v, error %d", show(d), k, show(r), is, why)
				}
			}
			if r, is, why := power.Root(amount, k); is {
				told++
				if square, has := squared(r, k); why != api.OK || r.Neg || !has || !reflect.DeepEqual(canon(square), canon(amount)) {
					t.Errorf("Root(%s, %d) = %s, error %d: squared, it is another one", show(amount), k, show(r), why)
				}
			}
		}
	}
	if told < 100 {
		t.Error("few roots are told:", told)
	}
}

// P22.9: the logarithm of the ends has y ln x between.
func TestLogarithms(t *testing.T) {
	for i, c := range within() {
		if c.x < 0 {
			continue
		}
		p, q := fewBits[i%len(fewBits)], fewBits[(i+3)%len(fewBits)]
		v := enclosed(t, c.x, c.y, p)
		logs, why := logcore.Over(v, q)
		if why != api.OK {
			t.Fatalf("the logarithms of the ends of %g to the power of %g: error %d", c.x, c.y, why)
		}
		base, _ := dyad.From(word(c.x))
		exponent, _ := dyad.From(word(c.y))
		log, _ := logcore.Log(base, 300)
		size, _ := ival.Mul(log, api.Ival{Lo: exponent, Hi: exponent}, 400)
		if isAbove(logs.Lo, size.Hi) || isAbove(size.Lo, logs.Hi) {
			t.Errorf("the logarithms of the ends of %g to the power of %g to %d bits do not have y ln x between", c.x, c.y, p)
		}
	}
}
