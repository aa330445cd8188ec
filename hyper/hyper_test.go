package hyper_test

import (
	"math"
	"reflect"
	"slices"
	"testing"

	"ulp/api"
	"ulp/bits"
	"ulp/dyad"
	"ulp/hyper"
	"ulp/ival"
	"ulp/probe"
)

const (
	minusZero uint64 = 1 << 63
	greatest  uint64 = 0x7fefffffffffffff
	leastNorm uint64 = 0x0010000000000000
	infinity  uint64 = 0x7ff0000000000000
	one       uint64 = 0x3ff0000000000000
	reach     uint64 = 0x40c57c0000000000 // 11000.0
)

var (
	six  = []api.Func{api.FuncSinh, api.FuncCosh, api.FuncTanh, api.FuncAsinh, api.FuncAcosh, api.FuncAtanh}
	odds = []api.Func{api.FuncSinh, api.FuncTanh, api.FuncAsinh, api.FuncAtanh}
)

// few are bits that take little time; wrongBits are those to which nothing is enclosed.
var (
	few       = []int{api.MinBits, 9, 24, 53, 64, 100, 128, 160, 333}
	wrongBits = []int{api.MinBits - 1, 1, 0, -1, -64, math.MinInt, api.MaxBits + 1, api.MaxCore - 128, api.MaxCore, api.MaxWork, math.MaxInt}
)

// notFinite are the infinities, and what is no number: quiet and signalling, of either sign.
var notFinite = []uint64{infinity, infinity | minusZero, 0x7ff8000000000000, 0xfff8000000000000, 0x7ff0000000000001, 0xfff0000000000001, 0x7fffffffffffffff, math.MaxUint64, 0x7ff4000000000000, 0xfff7ffffffffffff}

// beyondReach are above 11000, from the next number on to the greatest.
var beyondReach = []uint64{reach + 1, reach + 2, 0x40c57c8000000000, 0x40d0000000000000, 0x40d0000000000001, 0x4110000000000000, 0x7e37e43c8800759c, greatest - 1, greatest}

// bothSigns are the numbers, and less each of them.
func bothSigns(list []uint64) []uint64 {
	for _, x := range slices.Clone(list) {
		list = append(list, bits.Neg(x))
	}
	return list
}

// amounts are binary64 numbers above 0: edges, the neighbourhoods of 1, of the end of reach, of where the tangent becomes flat and of powers of 2, and some without a pattern.
func amounts() []uint64 {
	list := append([]uint64{1, 2, 3, 0x0008000000000001, leastNorm - 1, leastNorm, leastNorm + 1}, beyondReach...)
	for i := range uint64(6) {
		list = append(list, one+i, one-i, one+1<<(8*i), one-1<<(8*i))
	}
	for _, n := range []float64{11000, 8192, 0.5, 0.25, 0.1, 0.75, math.Ln2, 2, 3, 10, 20, 100, 710.4758600739439, 745.2, 1e10, 1e22} {
		x := math.Float64bits(n)
		list = append(list, x, x-1, x+1)
	}
	for e := -1022; e < 1024; e += 41 {
		x := math.Float64bits(math.Ldexp(1, e))
		list = append(list, x, x+1, x|0x000fffffffffffff)
	}
	s := probe.Source(20)
	for range 60 {
		list = append(list, math.Float64bits(math.Abs(s.Float(s.Below(2046)-1022))), math.Float64bits(math.Abs(s.Float(s.Below(72)-59))), math.Float64bits(math.Abs(s.Float(s.Below(12)-6))))
	}
	slices.Sort(list)
	return slices.Compact(list)
}

func isWithinReach(d api.Dyad) bool {
	return ival.Has(api.Ival{Lo: dyad.Int(-11000), Hi: dyad.Int(11000)}, d)
}

// inside tells whether Enclose has an enclosure of a function of a finite number.
func inside(f api.Func, x uint64) bool {
	n := math.Float64frombits(x)
	switch f {
	case api.FuncSinh, api.FuncCosh:
		return math.Abs(n) <= 11000
	case api.FuncAcosh:
		return n >= 1
	case api.FuncAtanh:
		return math.Abs(n) < 1
	default:
		return true
	}
}

// domain are numbers of either sign, with both zeros, of which Enclose has an enclosure.
func domain(f api.Func) []uint64 {
	list := append(bothSigns(amounts()), 0, minusZero)
	return slices.DeleteFunc(list, func(x uint64) bool { return !inside(f, x) })
}

// P20.1
func TestIs(t *testing.T) {
	for n := range 256 {
		f := api.Func(n)
		want := slices.Contains(six, f)
		if hyper.Is(f) != want {
			t.Errorf("Is(%d) = %v", f, !want)
		}
		if want {
			continue
		}
		for _, p := range append([]int{api.MinBits, 64, api.MaxBits}, wrongBits...) {
			for _, x := range append([]uint64{0, minusZero, 0x3fe0000000000000, one, greatest, greatest | minusZero}, notFinite...) {
				refused(t, f, x, p, api.ErrRange)
			}
		}
	}
}

// P20.1
func TestEnclose(t *testing.T) {
	for n, f := range six {
		for i, x := range domain(f) {
			check(t, f, x, few[(i+n)%len(few)])
		}
	}
}

// P20.1
func TestManyBits(t *testing.T) {
	for _, f := range six {
		for _, x := range bothSigns([]uint64{1, leastNorm + 5, 0x3c90000000000000, 0x3fe0000000000000, one - 1, one, one + 1, 0x4059000000000000, 0x40bfffffffffffff, reach, greatest}) {
			for _, p := range []int{1000, api.MaxBits - 1, api.MaxBits} {
				if inside(f, x) {
					check(t, f, x, p)
				}
			}
		}
	}
}

// P20.1: all bits that are few.
func TestAllBits(t *testing.T) {
	for _, f := range six {
		for p := api.MinBits; p <= 200; p++ {
			for _, x := range []uint64{math.Float64bits(float64(p) / 201), math.Float64bits(float64(p) / 7), bits.Neg(one - uint64(p)), one + uint64(p), uint64(p), reach - uint64(p)} {
				if inside(f, x) {
					check(t, f, x, p)
				}
			}
		}
	}
}

// P20.1: both zeros, and what of 1 is 0.
func TestZeros(t *testing.T) {
	for _, p := range append([]int{api.MaxBits}, few...) {
		for _, x := range []uint64{0, minusZero} {
			for _, f := range odds {
				if v, why := hyper.Enclose(f, x, p); why != api.OK || !reflect.DeepEqual(v, api.Ival{}) {
					t.Errorf("Enclose(%d, %x, %d) = %s, error %d, want from 0 to 0", f, x, p, showIval(v), why)
				}
			}
			if v, why := hyper.Enclose(api.FuncCosh, x, p); why != api.OK || !isForm(v) || !narrow(v, p) || !ival.Has(v, of(1, 0)) {
				t.Errorf("the cosine of %x to %d bits = %s, error %d, want 1 in it", x, p, showIval(v), why)
			}
		}
		if v, why := hyper.Enclose(api.FuncAcosh, one, p); why != api.OK || !reflect.DeepEqual(v, api.Ival{}) {
			t.Errorf("the number of the cosine 1 to %d bits: %s, error %d, want from 0 to 0", p, showIval(v), why)
		}
	}
}

// P20.1: what is not finite, and what is outside the domain: just there, and far.
func TestOutside(t *testing.T) {
	belowOne := append([]uint64{one - 1, one - 2, 0x3fe0000000000000, leastNorm, 1, 0, minusZero}, []uint64{bits.Neg(1), bits.Neg(one), bits.Neg(one + 1), bits.Neg(reach), bits.Neg(greatest)}...)
	fromOneOn := bothSigns([]uint64{one, one + 1, one + 2, 0x4000000000000000, reach, greatest - 1, greatest})
	for _, f := range six {
		outside := slices.Clone(notFinite)
		switch f {
		case api.FuncAcosh:
			outside = append(outside, belowOne...)
		case api.FuncAtanh:
			outside = append(outside, fromOneOn...)
		}
		for _, x := range outside {
			for _, p := range []int{api.MinBits, 64, api.MaxBits} {
				refused(t, f, x, p, api.ErrWhole)
			}
		}
	}
}

// P20.1: 11000 and -11000 with their neighbours; only sine and cosine have a reach.
func TestReach(t *testing.T) {
	for _, p := range []int{api.MinBits, 64, api.MaxBits} {
		for _, x := range bothSigns([]uint64{reach, reach - 1}) {
			for _, f := range []api.Func{api.FuncSinh, api.FuncCosh, api.FuncTanh, api.FuncAsinh} {
				check(t, f, x, p)
			}
		}
		for _, x := range bothSigns(beyondReach) {
			refused(t, api.FuncSinh, x, p, api.ErrMany)
			refused(t, api.FuncCosh, x, p, api.ErrMany)
			check(t, api.FuncTanh, x, p)
			check(t, api.FuncAsinh, x, p)
		}
	}
}

// P20.1: bits just beyond those that may be asked for, and far beyond, whatever the number is.
func TestWrongBits(t *testing.T) {
	for _, f := range six {
		for _, p := range wrongBits {
			for _, x := range slices.Concat(bothSigns([]uint64{0, 1, one - 1, one, reach}), bothSigns(beyondReach), notFinite) {
				refused(t, f, x, p, api.ErrRange)
			}
		}
	}
}

// P20.1: whatever is handed in, there is an answer: an error alone, or an enclosure that is right, in its one form, and narrow.
func TestAnything(t *testing.T) {
	list := slices.Concat(probe.Floats(), notFinite)
	s := probe.Source(7)
	for range 100 {
		list = append(list, s.Word())
	}
	for n := range int(api.FuncCount) + 2 {
		for i, x := range list {
			for _, p := range append([]int{few[i%len(few)]}, wrongBits...) {
				v, why := hyper.Enclose(api.Func(n), x, p)
				if why == api.OK && !(isForm(v) && narrow(v, p)) || why != api.OK && !reflect.DeepEqual(v, api.Ival{}) {
					t.Errorf("Enclose(%d, %x, %d) = %s, error %d", n, x, p, showIval(v), why)
				}
			}
		}
	}
}

// P20.3
func TestNewMemory(t *testing.T) {
	for _, f := range six {
		for _, x := range bothSigns([]uint64{0, 1, 0x3c90000000000000, 0x3fb999999999999a, 0x3fe0000000000000, one - 1, one, one + 1, reach, greatest}) {
			for _, p := range []int{api.MinBits, 64, 500} {
				var answers []api.Nat
				for range 2 {
					v, _ := hyper.Enclose(f, x, p)
					answers = append(answers, v.Lo.Abs, v.Hi.Abs)
				}
				if !probe.Apart(answers) {
					t.Errorf("answers of Enclose(%d, %x, %d) share memory", f, x, p)
				}
			}
		}
	}
}

// The chapter's examples.
func TestExamples(t *testing.T) {
	if v, why := hyper.Enclose(api.FuncSinh, 0x8000000000000000, 64); why != api.OK || !reflect.DeepEqual(v, api.Ival{}) {
		t.Errorf("the sine of -0: %s, error %d", showIval(v), why)
	}
	if v, why := hyper.Enclose(api.FuncCosh, 0, 64); why != api.OK || !ival.Has(v, of(1, 0)) || !narrow(v, 64) {
		t.Errorf("the cosine of 0: %s, error %d", showIval(v), why)
	}
	if v, why := hyper.Enclose(api.FuncAcosh, 0x3ff0000000000000, 64); why != api.OK || !reflect.DeepEqual(v, api.Ival{}) {
		t.Errorf("the number of the cosine 1: %s, error %d", showIval(v), why)
	}
	v, why := hyper.Enclose(api.FuncTanh, 0x7fefffffffffffff, 64)
	if why != api.OK || !narrow(v, 64) || !isAbove(of(1, 0), v.Lo) || isAbove(v.Hi, of(1, 0)) {
		t.Errorf("the tangent of the greatest number: %s, error %d", showIval(v), why)
	}
	refused(t, api.FuncAtanh, 0x3ff0000000000000, 64, api.ErrWhole)
	refused(t, api.FuncSinh, 0x7fefffffffffffff, 64, api.ErrMany)
}
