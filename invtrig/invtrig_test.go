package invtrig_test

import (
	"math"
	"reflect"
	"slices"
	"testing"

	"ulp/api"
	"ulp/bits"
	"ulp/invtrig"
	"ulp/ival"
	"ulp/probe"
)

const (
	minusZero uint64 = 1 << 63
	greatest  uint64 = 0x7fefffffffffffff
	leastNorm uint64 = 0x0010000000000000
	infinity  uint64 = 0x7ff0000000000000
	one       uint64 = 0x3ff0000000000000
)

var (
	six = []api.Func{api.FuncAsin, api.FuncAcos, api.FuncAtan, api.FuncAsinpi, api.FuncAcospi, api.FuncAtanpi}
	two = []api.Func{api.FuncAtan2, api.FuncAtan2pi}

	// bounded are those of the six that have a value from -1 to 1 alone.
	bounded = []api.Func{api.FuncAsin, api.FuncAcos, api.FuncAsinpi, api.FuncAcospi}
)

// few are bits that take little time; wrongBits are those to which nothing is enclosed.
var (
	few       = []int{api.MinBits, 9, 24, 53, 64, 100, 128, 160, 333}
	wrongBits = []int{api.MinBits - 1, 1, 0, -1, -64, math.MinInt, api.MaxBits + 1, api.MaxCore - 128, api.MaxCore, api.MaxWork, math.MaxInt}
)

// notFinite are the infinities, and what is no number: quiet and signalling, of either sign.
var notFinite = []uint64{infinity, infinity | minusZero, 0x7ff8000000000000, 0xfff8000000000000, 0x7ff0000000000001, 0xfff0000000000001, 0x7fffffffffffffff, math.MaxUint64, 0x7ff4000000000000, 0xfff7ffffffffffff}

// beyondOne are above 1, from the next number on to the greatest.
var beyondOne = []uint64{one + 1, one + 2, one + 1<<30, 0x3ff8000000000000, 0x4000000000000000, 0x4024000000000000, 0x7e37e43c8800759c, greatest - 1, greatest}

// bothSigns are the numbers, and less each of them.
func bothSigns(list []uint64) []uint64 {
	for _, x := range slices.Clone(list) {
		list = append(list, bits.Neg(x))
	}
	return list
}

// amounts are binary64 numbers above 0: edges, the neighbourhoods of 1, of numbers whose angles are known and of powers of 2, and some without a pattern.
func amounts() []uint64 {
	list := []uint64{1, 2, 3, 0x0008000000000001, leastNorm - 1, leastNorm, leastNorm + 1, greatest, greatest - 1}
	for i := range uint64(6) {
		list = append(list, one+i, one-i, one+1<<(8*i), one-1<<(8*i))
	}
	for _, n := range []float64{0.5, 0.25, 0.1, 0.6, 0.75, 0.9, math.Sqrt2 / 2, math.Sqrt(3) / 2, math.Sqrt2 - 1, math.Sqrt(3), 2, 3, 10, 1e10, 1e22, math.Pi} {
		x := math.Float64bits(n)
		list = append(list, x, x-1, x+1)
	}
	for e := -1022; e < 1024; e += 41 {
		x := math.Float64bits(math.Ldexp(1, e))
		list = append(list, x, x+1, x|0x000fffffffffffff)
	}
	s := probe.Source(19)
	for range 60 {
		list = append(list, math.Float64bits(math.Abs(s.Float(s.Below(2046)-1022))), math.Float64bits(math.Abs(s.Float(s.Below(60)-59))), math.Float64bits(math.Abs(s.Float(s.Below(12)-6))))
	}
	slices.Sort(list)
	return slices.Compact(list)
}

// domain are numbers of either sign, with both zeros, of which a function has a value.
func domain(f api.Func) []uint64 {
	list := amounts()
	if slices.Contains(bounded, f) {
		list = slices.DeleteFunc(list, func(x uint64) bool { return x > one })
	}
	return append(bothSigns(list), 0, minusZero)
}

// 19.1
func TestIs(t *testing.T) {
	for n := range 256 {
		f := api.Func(n)
		want := slices.Contains(six, f)
		if invtrig.Is(f) != want {
			t.Errorf("Is(%d) = %v", f, !want)
		}
		if want {
			continue
		}
		for _, p := range append([]int{api.MinBits, 64, api.MaxBits}, wrongBits...) {
			for _, x := range append([]uint64{0, minusZero, 0x3fe0000000000000, one, greatest, greatest | minusZero}, notFinite...) {
				refused(t, f, x, p, api.ErrRange)
			}
		}
	}
}

// 19.1
func TestEnclose(t *testing.T) {
	for n, f := range six {
		for i, x := range domain(f) {
			check(t, f, x, few[(i+n)%len(few)])
		}
	}
}

// 19.1
func TestManyBits(t *testing.T) {
	for _, f := range six {
		for _, x := range bothSigns([]uint64{1, leastNorm + 5, 0x3c90000000000000, 0x3fe0000000000000, one - 1, one}) {
			for _, p := range []int{1000, api.MaxBits - 1, api.MaxBits} {
				check(t, f, x, p)
			}
		}
	}
	for _, f := range []api.Func{api.FuncAtan, api.FuncAtanpi} {
		for _, x := range bothSigns([]uint64{one + 1, 0x4059000000000000, greatest}) {
			check(t, f, x, api.MaxBits)
		}
	}
}

// 19.1: all bits that are few.
func TestAllBits(t *testing.T) {
	for _, f := range six {
		for p := api.MinBits; p <= 200; p++ {
			check(t, f, math.Float64bits(float64(p)/201), p)
			check(t, f, bits.Neg(one-uint64(p)), p)
			check(t, f, uint64(p), p)
		}
	}
}

// 19.1: a value that is 0 is told as from 0 to 0, and no other one is; those that are dyadic lie in their enclosures.
func TestExactValues(t *testing.T) {
	for _, c := range []struct {
		f    api.Func
		x    uint64
		want api.Dyad
	}{
		{api.FuncAsin, 0, of(0, 0)}, {api.FuncAtan, 0, of(0, 0)}, {api.FuncAsinpi, 0, of(0, 0)}, {api.FuncAtanpi, 0, of(0, 0)},
		{api.FuncAsin, minusZero, of(0, 0)}, {api.FuncAtan, minusZero, of(0, 0)}, {api.FuncAsinpi, minusZero, of(0, 0)}, {api.FuncAtanpi, minusZero, of(0, 0)},
		{api.FuncAcos, one, of(0, 0)}, {api.FuncAcospi, one, of(0, 0)},
		{api.FuncAcospi, 0, of(1, -1)}, {api.FuncAcospi, minusZero, of(1, -1)}, {api.FuncAcospi, bits.Neg(one), of(1, 0)},
		{api.FuncAsinpi, one, of(1, -1)}, {api.FuncAsinpi, bits.Neg(one), less(of(1, -1))},
		{api.FuncAtanpi, one, of(1, -2)}, {api.FuncAtanpi, bits.Neg(one), less(of(1, -2))},
	} {
		for _, p := range append([]int{api.MaxBits}, few...) {
			v, why := invtrig.Enclose(c.f, c.x, p)
			if why != api.OK || !isForm(v) || !narrow(v, p) || !ival.Has(v, c.want) {
				t.Errorf("Enclose(%d, %x, %d) = %s, error %d", c.f, c.x, p, showIval(v), why)
			}
		}
	}
}

// 19.1: what is not finite, and what is beyond 1; bits that are wrong are refused first, whatever the number is.
func TestRefused(t *testing.T) {
	for _, f := range six {
		outside := slices.Clone(notFinite)
		if slices.Contains(bounded, f) {
			outside = append(outside, bothSigns(beyondOne)...)
		}
		for _, x := range outside {
			for _, p := range []int{api.MinBits, 64, api.MaxBits} {
				refused(t, f, x, p, api.ErrWhole)
			}
		}
		for _, p := range wrongBits {
			for _, x := range slices.Concat([]uint64{0, minusZero, 1, one, one | minusZero}, bothSigns(beyondOne), notFinite) {
				refused(t, f, x, p, api.ErrRange)
			}
		}
	}
}

// 19.1: whatever is handed in, there is an answer: an error alone, or an enclosure that is right, in its one form, and narrow.
func TestAnything(t *testing.T) {
	list := slices.Concat(probe.Floats(), notFinite)
	s := probe.Source(7)
	for range 100 {
		list = append(list, s.Word())
	}
	for n := range int(api.FuncCount) + 2 {
		for i, x := range list {
			for _, p := range append([]int{few[i%len(few)]}, wrongBits...) {
				v, why := invtrig.Enclose(api.Func(n), x, p)
				if why == api.OK && !(isForm(v) && narrow(v, p)) || why != api.OK && !reflect.DeepEqual(v, api.Ival{}) {
					t.Errorf("Enclose(%d, %x, %d) = %s, error %d", n, x, p, showIval(v), why)
				}
			}
		}
	}
}

// 19.3
func TestNewMemory(t *testing.T) {
	for _, f := range six {
		for _, x := range bothSigns([]uint64{0, 1, 0x3c90000000000000, 0x3fb999999999999a, 0x3fe0000000000000, one - 1, one, greatest}) {
			for _, p := range []int{api.MinBits, 64, 500} {
				var answers []api.Nat
				for range 2 {
					v, _ := invtrig.Enclose(f, x, p)
					answers = append(answers, v.Lo.Abs, v.Hi.Abs)
				}
				if !probe.Apart(answers) {
					t.Errorf("answers of Enclose(%d, %x, %d) share memory", f, x, p)
				}
			}
		}
	}
}

// The chapter's examples.
func TestExamples(t *testing.T) {
	if v, why := invtrig.Enclose(api.FuncAcos, 0x3ff0000000000000, 64); why != api.OK || !reflect.DeepEqual(v, api.Ival{}) {
		t.Errorf("the arc cosine of 1: %s, error %d", showIval(v), why)
	}
	if v, why := invtrig.Enclose(api.FuncAsinpi, 0x3ff0000000000000, 64); why != api.OK || !ival.Has(v, of(1, -1)) || !narrow(v, 64) {
		t.Errorf("the arc sine of 1 in half turns: %s, error %d", showIval(v), why)
	}
	refused(t, api.FuncAsin, 0x4000000000000000, 64, api.ErrWhole)
	if v, why := invtrig.Enclose2(api.FuncAtan2pi, one, one|minusZero, 64); why != api.OK || !ival.Has(v, of(3, -2)) || !narrow(v, 64) {
		t.Errorf("the angle of the point -1, 1 in half turns: %s, error %d", showIval(v), why)
	}
	refused2(t, api.FuncAtan2, 0, 0x8000000000000000, 64, api.ErrWhole)
}
