package exact_test

import (
	"math"
	"reflect"
	"slices"
	"testing"

	"ulp/api"
	"ulp/bits"
	"ulp/dyad"
	"ulp/exact"
	"ulp/expfam"
	"ulp/hyper"
	"ulp/invtrig"
	"ulp/ival"
	"ulp/logfam"
	"ulp/probe"
	"ulp/trig"
	"ulp/trigpi"
)

const (
	mostSize = 54
	reach    = 16000 // of the powers of 2 that are enclosed
)

// odd are the functions of which the value at -x is less that at x.
var odd = []api.Func{api.FuncSin, api.FuncTan, api.FuncSinpi, api.FuncTanpi, api.FuncAsin, api.FuncAtan, api.FuncAsinpi, api.FuncAtanpi, api.FuncSinh, api.FuncTanh, api.FuncAsinh, api.FuncAtanh}

// enclosed is the enclosure that the function's family answers.
func enclosed(f api.Func, x uint64, p int) (api.Ival, api.Errno) {
	switch {
	case expfam.Is(f):
		return expfam.Enclose(f, x, p)
	case logfam.Is(f):
		return logfam.Enclose(f, x, p)
	case trig.Is(f):
		return trig.Enclose(f, x, p)
	case trigpi.Is(f):
		return trigpi.Enclose(f, x, p)
	case invtrig.Is(f):
		return invtrig.Enclose(f, x, p)
	default:
		return hyper.Enclose(f, x, p)
	}
}

// places are numbers at which a function may have exact cases, with numbers beside them and others.
func places() []float64 {
	list := []float64{0, minusZero}
	for n := 1; n <= 60; n++ {
		list = append(list, float64(n)/4, -float64(n)/4, float64(n), -float64(n))
	}
	for n := -53; n <= 53; n++ {
		two := math.Ldexp(1, n)
		list = append(list, two, two-1, -two, 1-two)
	}
	for n := range 23 {
		ten := math.Pow10(n)
		list = append(list, ten, ten-1)
	}
	for _, n := range []int{-300, -200, 64, 100, 200, 299} {
		list = append(list, math.Ldexp(1, n), math.Ldexp(-1, n), math.Ldexp(5, n), math.Ldexp(1, n)+math.Ldexp(1, n-52))
	}
	for _, x := range slices.Clone(list) {
		if math.Abs(x) > 0x1p-200 {
			list = append(list, up(x), down(x))
		}
	}
	s := probe.Source(5)
	for range 100 {
		list = append(list, s.Float(s.Below(500)-250), s.Float(s.Below(16)-8))
	}
	slices.Sort(list)
	return append(slices.Compact(list), minusZero)
}

// nextFew is the least number of at most 54 bits in an interval, if there is one.
func nextFew(v api.Ival) (api.Dyad, bool) {
	d, _ := dyad.Cut(v.Lo, mostSize, true)
	return d, ival.Has(v, d)
}

// 23.4, 23.5: what is told lies in the enclosures, to few bits and to many, and has few bits.
func TestEnclosed(t *testing.T) {
	count := 0
	for _, f := range all {
		for _, x := range places() {
			d, is, _ := exact.Exact(f, word(x))
			if !is || f == api.FuncExp2 && math.Abs(x) > reach {
				continue
			}
			count++
			if size, why := dyad.Size(d); why == api.OK && size > mostSize {
				t.Errorf("Exact(%d, %g) has %d bits", f, x, size)
			}
			for _, p := range []int{api.MinBits, 64, 500} {
				if v, why := enclosed(f, word(x), p); why != api.OK || !ival.Has(v, d) {
					t.Errorf("Exact(%d, %g) = %v, but to %d bits it is enclosed from %v to %v, error %d", f, x, d, p, v.Lo, v.Hi, why)
				}
			}
		}
	}
	if count < 1000 {
		t.Error("few are told:", count)
	}
	for _, n := range []float64{-reach, 1 - reach, -1075, 1024, reach - 1, reach} {
		d, is, _ := exact.Exact(api.FuncExp2, word(n))
		if v, why := enclosed(api.FuncExp2, word(n), 64); !is || why != api.OK || !ival.Has(v, d) {
			t.Errorf("Exact(FuncExp2, %g) = %v, %v", n, d, is)
		}
	}
}

// saturated tells whether a value lies so near to a number of few bits that no enclosure tells the two apart.
func saturated(f api.Func, x float64) bool {
	switch f {
	case api.FuncTanh, api.FuncExpm1, api.FuncExp2m1, api.FuncExp10m1:
		return math.Abs(x) > 500
	default:
		return false
	}
}

// apart tells whether an enclosure, to however many bits, has no number of few bits in it.
func apart(enclose func(p int) (api.Ival, api.Errno)) bool {
	for _, p := range []int{100, 400, api.MaxBits} {
		v, why := enclose(p)
		if why == api.ErrMany { // too great or too small to be enclosed
			return true
		}
		if _, has := nextFew(v); why == api.OK && !has {
			return true
		}
	}
	return false
}

// 23.2: of what is told to be none no number of at most 54 bits is the value.
func TestNone(t *testing.T) {
	count := 0
	for _, f := range all {
		for _, x := range places() {
			_, is, why := exact.Exact(f, word(x))
			if is || why != api.OK || saturated(f, x) {
				continue
			}
			count++
			if !apart(func(p int) (api.Ival, api.Errno) { return enclosed(f, word(x), p) }) {
				t.Errorf("Exact(%d, %g): none, but a number of few bits seems to be the value", f, x)
			}
		}
	}
	if count < 10000 {
		t.Error("few are none:", count)
	}
}

// points are some on the axes, halfway between them, and elsewhere.
func points() [][2]float64 {
	var list [][2]float64
	sides := []float64{0, minusZero, 0x1p-300, 0.1, 0.5, 1, up(1), 2, 3, 0x1p200}
	for _, y := range sides {
		for _, x := range sides {
			list = append(list, [2]float64{y, x}, [2]float64{-y, x}, [2]float64{y, -x}, [2]float64{-y, -x})
		}
	}
	return list
}

// 23.2, 23.4, 23.5: likewise of points.
func TestEnclosed2(t *testing.T) {
	for _, f := range two {
		for _, c := range points() {
			y, x := word(c[0]), word(c[1])
			d, is, why := exact.Exact2(f, y, x)
			if why != api.OK {
				continue
			}
			enclose := func(p int) (api.Ival, api.Errno) { return invtrig.Enclose2(f, y, x, p) }
			if !is && !apart(enclose) {
				t.Errorf("Exact2(%d, %g, %g): none, but a number of few bits seems to be the value", f, c[0], c[1])
			}
			if size, why := dyad.Size(d); why == api.OK && size > mostSize {
				t.Errorf("Exact2(%d, %g, %g) has %d bits", f, c[0], c[1], size)
			}
			for _, p := range []int{api.MinBits, 64, 500} {
				if v, why := enclose(p); is && (why != api.OK || !ival.Has(v, d)) {
					t.Errorf("Exact2(%d, %g, %g) = %v, but to %d bits it is enclosed from %v to %v, error %d", f, c[0], c[1], d, p, v.Lo, v.Hi, why)
				}
			}
		}
	}
}

// 23.6: there and back, for each pair of functions as far as the powers are binary64 numbers.
func TestBack(t *testing.T) {
	for _, c := range []struct {
		there, back api.Func
		least, most int // of the exponents whose powers are binary64 numbers
	}{
		{api.FuncExp2, api.FuncLog2, -1074, 1023},
		{api.FuncExp10, api.FuncLog10, 0, 22},
		{api.FuncExp2m1, api.FuncLog2p1, -53, 53},
		{api.FuncExp10m1, api.FuncLog10p1, 0, 15},
	} {
		for n := -1100; n <= 1100; n++ {
			d, is, _ := exact.Exact(c.there, word(float64(n)))
			x, has := dyad.To(d)
			if within := n >= c.least && n <= c.most; within != (is && has) {
				t.Errorf("function %d of %d: %v, a binary64: %v", c.there, n, is, has)
			} else if within {
				known(t, c.back, math.Float64frombits(x), whole(n))
			}
		}
	}
}

// 23.7
func TestMirror(t *testing.T) {
	for _, f := range odd {
		for _, x := range append(edges(), places()...) {
			d, is, why := exact.Exact(f, word(x))
			e, isToo, whyToo := exact.Exact(f, word(-x))
			e, _ = dyad.Neg(e)
			if is != isToo || why != whyToo || !reflect.DeepEqual(d, e) {
				t.Errorf("function %d at %g: %v, %v, error %d; at less that less %v, %v, error %d", f, x, d, is, why, e, isToo, whyToo)
			}
		}
	}
	for _, f := range two {
		for _, c := range points() {
			if c[0] == 0 { // zeros have no sign here
				continue
			}
			d, is, why := exact.Exact2(f, word(c[0]), word(c[1]))
			e, isToo, whyToo := exact.Exact2(f, word(-c[0]), word(c[1]))
			e, _ = dyad.Neg(e)
			if is != isToo || why != whyToo || !reflect.DeepEqual(d, e) {
				t.Errorf("function %d at %g, %g: %v, %v; at less that less %v, %v", f, c[0], c[1], d, is, e, isToo)
			}
		}
	}
}

// 23.3
func TestNewMemory(t *testing.T) {
	for _, f := range all {
		for _, x := range []float64{0, 0.25, 0.5, 1, -1, 2, 3, 10, 16, 23, 1000, 1024, -54} {
			var answers []api.Nat
			for range 2 {
				d, _, _ := exact.Exact(f, word(x))
				answers = append(answers, d.Abs)
			}
			if !probe.Apart(answers) {
				t.Errorf("answers of Exact(%d, %g) share memory", f, x)
			}
		}
	}
	for _, f := range two {
		for _, c := range points() {
			d, _, _ := exact.Exact2(f, word(c[0]), word(c[1]))
			e, _, _ := exact.Exact2(f, word(c[0]), word(c[1]))
			if !probe.Apart([]api.Nat{d.Abs, e.Abs}) {
				t.Errorf("answers of Exact2(%d, %g, %g) share memory", f, c[0], c[1])
			}
		}
	}
}

// wellFormed tells whether an answer is an error alone, no case alone, or a number of few bits in its one form.
func wellFormed(d api.Dyad, is bool, why api.Errno) bool {
	if why != api.OK || !is {
		return reflect.DeepEqual(d, api.Dyad{}) && !(is && why != api.OK)
	}
	size, whyNone := dyad.Size(d)
	return isForm(d) && (whyNone == api.ErrWhole || size <= mostSize)
}

// 23.1, 23.2, P1: whatever is handed in, there is an answer, and always the same.
func TestAnything(t *testing.T) {
	list := slices.Concat(probe.Floats(), notFinite)
	s := probe.Source(77)
	for range 100 {
		list = append(list, s.Word())
	}
	for n := range 256 {
		f := api.Func(n)
		for i, x := range list {
			d, is, why := exact.Exact(f, x)
			if !wellFormed(d, is, why) || exact.Domain(f, x) != (why == api.OK) {
				t.Errorf("Exact(%d, %x) = %v, %v, error %d; Domain %v", f, x, d, is, why, exact.Domain(f, x))
			}
			y := list[(i*31+n)%len(list)]
			if d, is, why := exact.Exact2(f, y, x); !wellFormed(d, is, why) {
				t.Errorf("Exact2(%d, %x, %x) = %v, %v, error %d", f, y, x, d, is, why)
			}
			if d, is, why := exact.Exact2(f, x, bits.Neg(x)); !wellFormed(d, is, why) {
				t.Errorf("Exact2(%d, %x, less that) = %v, %v, error %d", f, x, d, is, why)
			}
		}
	}
}
