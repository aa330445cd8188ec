package expfam_test

import (
	"math"
	"reflect"
	"slices"
	"testing"

	"ulp/api"
	"ulp/bits"
	"ulp/expfam"
	"ulp/ival"
	"ulp/probe"
)

const (
	minusZero uint64 = 1 << 63
	greatest  uint64 = 0x7fefffffffffffff
	leastNorm uint64 = 0x0010000000000000
	infinity  uint64 = 0x7ff0000000000000
)

// few are bits that take little time; wrongBits are those to which nothing is enclosed.
var (
	few       = []int{api.MinBits, 9, 24, 53, 64, 100, 128, 160, 333}
	wrongBits = []int{api.MinBits - 1, 1, 0, -1, -64, math.MinInt, math.MaxInt}
)

// notFinite are the infinities, and what is no number: quiet and signalling, of either sign.
var notFinite = []uint64{infinity, infinity | minusZero, 0x7ff8000000000000, 0xfff8000000000000, 0x7ff0000000000001, 0xfff0000000000001, 0x7fffffffffffffff, math.MaxUint64, 0x7ff4000000000000, 0xfff7ffffffffffff}

// bothSigns are the numbers, and less each of them.
func bothSigns(list []uint64) []uint64 {
	for _, x := range slices.Clone(list) {
		list = append(list, bits.Neg(x))
	}
	return list
}

// amounts are binary64 numbers above 0 that are not above a bound: edges, the neighbourhood of whole numbers, of powers of 2 and of the bound, and some without a pattern.
func amounts(bound float64) []uint64 {
	most := math.Float64bits(bound)
	list := []uint64{1, 2, 3, leastNorm - 1, leastNorm, leastNorm + 1, 0x0008000000000001, most, most - 1, most - 2}
	for _, n := range []float64{1, 2, 3, 10, 100, 1023, 1024, 4000, math.Ln2, math.Ln10, 0.5, 0.25, 0.1, 709.782712893384, 745.1332191019412} {
		x := math.Float64bits(n)
		list = append(list, x, x-1, x+1)
	}
	for e := -1022; e < 12; e += 1 + (5-e)/30 {
		x := math.Float64bits(math.Ldexp(1, e))
		list = append(list, x, x+1, x|0x000fffffffffffff)
	}
	s := probe.Source(15)
	for range 60 {
		list = append(list, math.Float64bits(math.Abs(s.Float(s.Below(60)-48))))
	}
	slices.Sort(list)
	return slices.DeleteFunc(slices.Compact(list), func(x uint64) bool { return x > most })
}

// 15.1
func TestIs(t *testing.T) {
	for n := range 256 {
		f := api.Func(n)
		want := f == api.FuncExp || f == api.FuncExp2 || f == api.FuncExp10 || f == api.FuncExpm1 || f == api.FuncExp2m1 || f == api.FuncExp10m1
		if expfam.Is(f) != want {
			t.Errorf("Is(%d) = %v", f, !want)
		}
		if want {
			continue
		}
		for _, p := range append([]int{api.MinBits, 64, api.MaxBits, api.MaxBits + 1}, wrongBits...) {
			for _, x := range append([]uint64{0, minusZero, 0x3ff0000000000000, greatest, greatest | minusZero}, notFinite...) {
				refused(t, f, x, p, api.ErrRange)
			}
		}
	}
}

// 15.1
func TestEnclose(t *testing.T) {
	for _, k := range kinds {
		for i, x := range bothSigns(amounts(float64(k.reach))) {
			for j := range 2 {
				k.check(t, x, few[(i+4*j)%len(few)])
			}
		}
	}
}

// 15.1
func TestManyBits(t *testing.T) {
	list := bothSigns([]uint64{1, 0x3ff0000000000000, 0x3fb999999999999a, 0x40862e42fefa39ef, 0x3c90000000000000, leastNorm + 5})
	for _, k := range kinds {
		for _, x := range append(list, math.Float64bits(float64(k.reach)), math.Float64bits(float64(-k.reach))) {
			for _, p := range []int{1000, api.MaxBits - 1, api.MaxBits} {
				k.check(t, x, p)
			}
		}
	}
}

// 15.1: all bits that are few, at the exponents of most bits ahead of the point, and next to 0.
func TestAllBits(t *testing.T) {
	for _, k := range kinds {
		most := math.Float64bits(float64(k.reach))
		for p := api.MinBits; p <= 300; p++ {
			k.check(t, most-uint64(p), p)
			k.check(t, most-uint64(p)|minusZero, p)
			k.check(t, uint64(p), p)
			k.check(t, math.Float64bits(float64(p)/77), p)
		}
	}
}

// 15.1: both zeros.
func TestZeros(t *testing.T) {
	for _, k := range kinds {
		for _, x := range []uint64{0, minusZero} {
			for _, p := range []int{api.MinBits, 64, api.MaxBits} {
				v, why := expfam.Enclose(k.f, x, p)
				if k.less && (why != api.OK || !reflect.DeepEqual(v, api.Ival{})) {
					t.Errorf("Enclose(%d, %x, %d) = %s, error %d, want from 0 to 0", k.f, x, p, showIval(v), why)
				}
				if !k.less && (why != api.OK || !isForm(v) || !narrow(v, p) || !ival.Has(v, of(1, 0))) {
					t.Errorf("Enclose(%d, %x, %d) = %s, error %d, want 1 in it", k.f, x, p, showIval(v), why)
				}
			}
		}
	}
}

// 15.1: what is not finite; bits that are wrong are refused first.
func TestNotFinite(t *testing.T) {
	for _, k := range kinds {
		for _, x := range notFinite {
			for _, p := range []int{api.MinBits, 64, api.MaxBits} {
				refused(t, k.f, x, p, api.ErrWhole)
			}
		}
	}
}

// 15.1: bits just beyond those that may be asked for, and far beyond; whatever the number is.
func TestWrongBits(t *testing.T) {
	for _, k := range kinds {
		for _, p := range append([]int{api.MaxBits + 1, api.MaxCore - 128, api.MaxCore}, wrongBits...) {
			for _, x := range append([]uint64{0, minusZero, 1, 0x3ff0000000000000, greatest, greatest | minusZero}, notFinite...) {
				refused(t, k.f, x, p, api.ErrRange)
			}
		}
	}
}

// beyond are the numbers above what is within reach: the next ones, and the greatest.
func (k kind) beyond() []uint64 {
	most := math.Float64bits(float64(k.reach))
	return []uint64{most + 1, most + 2, math.Float64bits(float64(k.reach + 1)), math.Float64bits(float64(2 * k.reach)), 0x40f0000000000000, 0x7e37e43c8800759c, greatest - 1, greatest}
}

// 15.1: just within reach, and just beyond it.
func TestReach(t *testing.T) {
	for _, k := range kinds {
		most := math.Float64bits(float64(k.reach))
		for _, p := range []int{api.MinBits, 64, api.MaxBits} {
			k.check(t, most, p)
			k.check(t, bits.Neg(most), p)
			for _, x := range k.beyond() {
				refused(t, k.f, x, p, api.ErrMany)
				if !k.less {
					refused(t, k.f, bits.Neg(x), p, api.ErrMany)
				}
			}
		}
	}
}

// 15.1: less 1, below reach: the power is above 0, but less than any number that an end could be more than -1.
func TestFarBelow(t *testing.T) {
	minusOne := less(of(1, 0))
	for _, k := range kinds[3:] {
		for _, x := range k.beyond() {
			for _, p := range []int{api.MinBits, 9, 53, 64, 500, api.MaxBits - 1, api.MaxBits} {
				v, why := expfam.Enclose(k.f, bits.Neg(x), p)
				if why != api.OK || !isForm(v) || !narrow(v, p) || !ival.Has(v, minusOne) || float(v.Hi).Cmp(float(sum(minusOne, of(1, -15000)))) < 0 {
					t.Errorf("Enclose(%d, %x, %d) = %s, error %d", k.f, bits.Neg(x), p, showIval(v), why)
				}
			}
		}
	}
}

// 15.1, 15.3: whatever is handed in, there is an answer: an error alone, or an enclosure that is right, in its one form, and narrow.
func TestAnything(t *testing.T) {
	list := slices.Concat(probe.Floats(), notFinite)
	s := probe.Source(7)
	for range 100 {
		list = append(list, s.Word())
	}
	for n := range int(api.FuncCount) + 2 {
		for i, x := range list {
			for _, p := range append([]int{few[i%len(few)]}, wrongBits...) {
				v, why := expfam.Enclose(api.Func(n), x, p)
				zero := reflect.DeepEqual(v, api.Ival{})
				if why == api.OK && !(zero || isForm(v) && narrow(v, p)) || why != api.OK && !zero {
					t.Errorf("Enclose(%d, %x, %d) = %s, error %d", n, x, p, showIval(v), why)
				}
			}
		}
	}
}

// 15.3
func TestNewMemory(t *testing.T) {
	for _, k := range kinds {
		for _, x := range bothSigns([]uint64{0, 1, 0x3ff0000000000000, 0x4008000000000000, 0x3fb999999999999a, 0x40b2c00000000000, 0x4110000000000000}) {
			for _, p := range []int{api.MinBits, 64, 500} {
				var answers []api.Nat
				for range 2 {
					v, _ := expfam.Enclose(k.f, x, p)
					answers = append(answers, v.Lo.Abs, v.Hi.Abs)
				}
				if !probe.Apart(answers) {
					t.Errorf("answers of Enclose(%d, %x, %d) share memory", k.f, x, p)
				}
			}
		}
	}
}

// The chapter's examples.
func TestExamples(t *testing.T) {
	if v, why := expfam.Enclose(api.FuncExp2, 0x4008000000000000, 64); why != api.OK || !ival.Has(v, of(8, 0)) || !ival.Narrow(v, 64) {
		t.Errorf("2 to the power of 3: %s, error %d", showIval(v), why)
	}
	if v, why := expfam.Enclose(api.FuncExp, 0, 64); why != api.OK || !ival.Has(v, of(1, 0)) || !ival.Narrow(v, 64) {
		t.Errorf("e to the power of 0: %s, error %d", showIval(v), why)
	}
	if v, why := expfam.Enclose(api.FuncExpm1, 0x8000000000000000, 64); why != api.OK || !reflect.DeepEqual(v, api.Ival{}) {
		t.Errorf("e to the power of -0, less 1: %s, error %d", showIval(v), why)
	}
	refused(t, api.FuncExp, 0x7fefffffffffffff, 64, api.ErrMany)
	v, why := expfam.Enclose(api.FuncExpm1, 0xffefffffffffffff, 64)
	minusOne := float(less(of(1, 0)))
	if why != api.OK || !ival.Narrow(v, 64) || float(v.Lo).Cmp(minusOne) > 0 || float(v.Hi).Cmp(minusOne) <= 0 {
		t.Errorf("e to the power of the least number, less 1: %s, error %d", showIval(v), why)
	}
}
