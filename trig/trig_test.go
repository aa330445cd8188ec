package trig_test

import (
	"math"
	"math/big"
	"reflect"
	"slices"
	"testing"

	"ulp/api"
	"ulp/bits"
	"ulp/ival"
	"ulp/probe"
	"ulp/trig"
)

const (
	minusZero uint64 = 1 << 63
	greatest  uint64 = 0x7fefffffffffffff
	leastNorm uint64 = 0x0010000000000000
	infinity  uint64 = 0x7ff0000000000000
)

var three = []api.Func{api.FuncSin, api.FuncCos, api.FuncTan}

// few are bits that take little time; wrongBits are those to which nothing is enclosed.
var (
	few       = []int{api.MinBits, 9, 24, 53, 64, 100, 128, 160, 333}
	wrongBits = []int{api.MinBits - 1, 1, 0, -1, -64, math.MinInt, api.MaxBits + 1, api.MaxCore - 128, api.MaxCore, api.MaxWork, math.MaxInt}
)

// notFinite are the infinities, and what is no number: quiet and signalling, of either sign.
var notFinite = []uint64{infinity, infinity | minusZero, 0x7ff8000000000000, 0xfff8000000000000, 0x7ff0000000000001, 0xfff0000000000001, 0x7fffffffffffffff, math.MaxUint64, 0x7ff4000000000000, 0xfff7ffffffffffff}

// bothSigns are the numbers, and less each of them.
func bothSigns(list []uint64) []uint64 {
	for _, x := range slices.Clone(list) {
		list = append(list, bits.Neg(x))
	}
	return list
}

// multiples are whole numbers of quarters of pi, from 1 to the greatest that a binary64 lies at.
func multiples() []*big.Int {
	var list []*big.Int
	for n := int64(1); n <= 24; n++ {
		list = append(list, big.NewInt(n))
	}
	for n := uint(5); n < 1024; n += 53 {
		for more := range int64(4) {
			power := new(big.Int).Lsh(big.NewInt(1), n)
			list = append(list, power.Add(power, big.NewInt(more)))
		}
	}
	return list
}

// quarterPi is so many times pi / 4.
func quarterPi(n *big.Int) *big.Float {
	x := fresh(mostOfPi).Mul(fresh(mostOfPi).SetInt(n), pi())
	return x.SetMantExp(x, -2)
}

// besideMultiples are the binary64 numbers next to multiples of pi / 4; with those that lie nearer to multiples of pi / 2 than any others.
func besideMultiples() []uint64 {
	list := []uint64{0x400921fb54442d18, 0x3ff921fb54442d18, math.Float64bits(math.Ldexp(6381956970095103, 797)), math.Float64bits(math.Ldexp(5319372648326541, 416))}
	for _, n := range multiples() {
		if near, _ := quarterPi(n).Float64(); !math.IsInf(near, 0) {
			x := math.Float64bits(near)
			list = append(list, x, x-1, x+1)
		}
	}
	return list
}

// amounts are binary64 numbers above 0: edges, the neighbourhood of whole numbers and of powers of 2, and some without a pattern.
func amounts() []uint64 {
	list := []uint64{1, 2, 3, 0x0008000000000001, leastNorm - 1, leastNorm, leastNorm + 1, greatest, greatest - 1}
	for _, n := range []float64{1, 2, 3, 10, 22, 100, 355, 1e22, 0.5, 0.25, 0.1, math.Ldexp(1, -26), math.Ldexp(1, -27)} {
		x := math.Float64bits(n)
		list = append(list, x, x-1, x+1)
	}
	for e := -1022; e < 1024; e += 41 {
		x := math.Float64bits(math.Ldexp(1, e))
		list = append(list, x, x+1, x|0x000fffffffffffff)
	}
	s := probe.Source(17)
	for range 60 {
		list = append(list, math.Float64bits(math.Abs(s.Float(s.Below(2046)-1022))), math.Float64bits(math.Abs(s.Float(s.Below(60)-40))))
	}
	return list
}

// 17.1
func TestIs(t *testing.T) {
	for n := range 256 {
		f := api.Func(n)
		want := slices.Contains(three, f)
		if trig.Is(f) != want {
			t.Errorf("Is(%d) = %v", f, !want)
		}
		if want {
			continue
		}
		for _, p := range append([]int{api.MinBits, 64, api.MaxBits}, wrongBits...) {
			for _, x := range append([]uint64{0, minusZero, 0x3ff0000000000000, greatest, greatest | minusZero}, notFinite...) {
				refused(t, f, x, p, api.ErrRange)
			}
		}
	}
}

// 17.1
func TestEnclose(t *testing.T) {
	for i, x := range bothSigns(amounts()) {
		for j := range 2 {
			check(t, x, few[(i+4*j)%len(few)])
		}
	}
}

// 17.1: there sine, cosine or tangent is very near 0, or sine and cosine are nearly alike.
func TestBesideMultiples(t *testing.T) {
	for i, x := range bothSigns(besideMultiples()) {
		check(t, x, few[i%len(few)])
	}
}

// 17.1
func TestManyBits(t *testing.T) {
	for _, x := range bothSigns([]uint64{1, 0x3ff0000000000000, 0x400921fb54442d18, 0x3c90000000000000, leastNorm + 5, greatest, math.Float64bits(math.Ldexp(6381956970095103, 797))}) {
		for _, p := range []int{1000, api.MaxBits - 1, api.MaxBits} {
			check(t, x, p)
		}
	}
}

// 17.1: all bits that are few.
func TestAllBits(t *testing.T) {
	for p := api.MinBits; p <= 200; p++ {
		check(t, math.Float64bits(float64(p)/7), p)
		check(t, greatest-uint64(p), p)
		check(t, uint64(p), p)
	}
}

// 17.1: both zeros.
func TestZeros(t *testing.T) {
	for _, x := range []uint64{0, minusZero} {
		for _, p := range []int{api.MinBits, 64, api.MaxBits} {
			for _, f := range []api.Func{api.FuncSin, api.FuncTan} {
				if v, why := trig.Enclose(f, x, p); why != api.OK || !reflect.DeepEqual(v, api.Ival{}) {
					t.Errorf("Enclose(%d, %x, %d) = %s, error %d, want from 0 to 0", f, x, p, showIval(v), why)
				}
			}
			if v, why := trig.Enclose(api.FuncCos, x, p); why != api.OK || !isForm(v) || !narrow(v, p) || !ival.Has(v, of(1, 0)) {
				t.Errorf("the cosine of %x to %d bits = %s, error %d, want 1 in it", x, p, showIval(v), why)
			}
		}
	}
}

// 17.1: what is not finite; bits that are wrong are refused first, whatever the number is.
func TestRefused(t *testing.T) {
	for _, f := range three {
		for _, x := range notFinite {
			for _, p := range []int{api.MinBits, 64, api.MaxBits} {
				refused(t, f, x, p, api.ErrWhole)
			}
		}
		for _, p := range wrongBits {
			for _, x := range append([]uint64{0, minusZero, 1, 0x3ff0000000000000, greatest, greatest | minusZero}, notFinite...) {
				refused(t, f, x, p, api.ErrRange)
			}
		}
	}
}

// 17.1: whatever is handed in, there is an answer: an error alone, or an enclosure that is right, in its one form, and narrow.
func TestAnything(t *testing.T) {
	list := slices.Concat(probe.Floats(), notFinite)
	s := probe.Source(7)
	for range 100 {
		list = append(list, s.Word())
	}
	for n := range int(api.FuncCount) + 2 {
		for i, x := range list {
			for _, p := range append([]int{few[i%len(few)]}, wrongBits...) {
				v, why := trig.Enclose(api.Func(n), x, p)
				if why == api.OK && !(isForm(v) && narrow(v, p)) || why != api.OK && !reflect.DeepEqual(v, api.Ival{}) {
					t.Errorf("Enclose(%d, %x, %d) = %s, error %d", n, x, p, showIval(v), why)
				}
			}
		}
	}
}

// 17.3
func TestNewMemory(t *testing.T) {
	for _, f := range three {
		for _, x := range bothSigns([]uint64{0, 1, 0x3ff0000000000000, 0x4008000000000000, 0x4014000000000000, 0x3e50000000000000, 0x3e70000000000000, greatest}) {
			for _, p := range []int{api.MinBits, 64, 500} {
				var answers []api.Nat
				for range 2 {
					v, _ := trig.Enclose(f, x, p)
					answers = append(answers, v.Lo.Abs, v.Hi.Abs)
				}
				if !probe.Apart(answers) {
					t.Errorf("answers of Enclose(%d, %x, %d) share memory", f, x, p)
				}
			}
		}
	}
}

// The chapter's examples.
func TestExamples(t *testing.T) {
	if v, why := trig.Enclose(api.FuncSin, 0, 64); why != api.OK || !reflect.DeepEqual(v, api.Ival{}) {
		t.Errorf("the sine of 0: %s, error %d", showIval(v), why)
	}
	if v, why := trig.Enclose(api.FuncCos, 0, 64); why != api.OK || !ival.Has(v, of(1, 0)) || !narrow(v, 64) {
		t.Errorf("the cosine of 0: %s, error %d", showIval(v), why)
	}
	v, why := trig.Enclose(api.FuncSin, greatest, 53)
	if why != api.OK || !narrow(v, 53) || float(v.Hi).Cmp(big.NewFloat(0.0049619)) < 0 || float(v.Lo).Cmp(big.NewFloat(0.0049620)) > 0 {
		t.Errorf("the sine of the greatest number: %s, error %d", showIval(v), why)
	}
	refused(t, api.FuncTan, infinity, 64, api.ErrWhole)
	sine, cosine, why := trig.Both(of(1, 0), 64)
	if why != api.OK || !narrow(sine, 64) || !narrow(cosine, 64) || float(sine.Lo).Text('f', 15) != "0.841470984807897" || float(cosine.Lo).Text('f', 15) != "0.540302305868140" {
		t.Errorf("Both(1, 64) = %s, %s, error %d", showIval(sine), showIval(cosine), why)
	}
}
