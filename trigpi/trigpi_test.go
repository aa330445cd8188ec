package trigpi_test

import (
	"math"
	"reflect"
	"slices"
	"testing"

	"ulp/api"
	"ulp/bits"
	"ulp/ival"
	"ulp/probe"
	"ulp/trigpi"
)

const (
	minusZero uint64 = 1 << 63
	greatest  uint64 = 0x7fefffffffffffff
	leastNorm uint64 = 0x0010000000000000
	infinity  uint64 = 0x7ff0000000000000
)

var three = []api.Func{api.FuncSinpi, api.FuncCospi, api.FuncTanpi}

// few are bits that take little time; wrongBits are those to which nothing is enclosed.
var (
	few       = []int{api.MinBits, 9, 24, 53, 64, 100, 128, 160, 333}
	wrongBits = []int{api.MinBits - 1, 1, 0, -1, -64, math.MinInt, api.MaxBits + 1, api.MaxCore - 128, api.MaxCore, api.MaxWork, math.MaxInt}
)

// notFinite are the infinities, and what is no number: quiet and signalling, of either sign.
var notFinite = []uint64{infinity, infinity | minusZero, 0x7ff8000000000000, 0xfff8000000000000, 0x7ff0000000000001, 0xfff0000000000001, 0x7fffffffffffffff, math.MaxUint64, 0x7ff4000000000000, 0xfff7ffffffffffff}

// bothSigns are the numbers, and less each of them.
func bothSigns(list []uint64) []uint64 {
	for _, x := range slices.Clone(list) {
		list = append(list, bits.Neg(x))
	}
	return list
}

// quarters are whole numbers, halves and quarters above 0, small and great, and the greatest of each kind.
func quarters() []uint64 {
	var list []uint64
	for n := 1.0; n <= 24; n++ {
		list = append(list, math.Float64bits(n/4))
	}
	for e := 3; e <= 50; e += 5 {
		for more := range 8 {
			list = append(list, math.Float64bits(math.Ldexp(1, e)+float64(more)/4))
		}
	}
	for _, n := range []float64{1<<51 - 0.25, 1<<51 - 0.5, 1<<52 - 0.5, 1<<52 - 1, 1 << 52, 1<<52 + 1, 1<<53 - 1, 1 << 53, 1<<53 + 2, 1e22, 1e300} {
		list = append(list, math.Float64bits(n))
	}
	return append(list, greatest, greatest-1)
}

// amounts are binary64 numbers above 0: edges, the neighbourhood of quarters and of powers of 2, and some without a pattern.
func amounts() []uint64 {
	list := []uint64{1, 2, 3, 0x0008000000000001, leastNorm - 1, leastNorm, leastNorm + 1}
	for _, x := range quarters() {
		list = append(list, x, x-1, bits.Down(x))
	}
	for e := -1022; e < 1024; e += 41 {
		x := math.Float64bits(math.Ldexp(1, e))
		list = append(list, x, x+1, x|0x000fffffffffffff)
	}
	s := probe.Source(18)
	for range 60 {
		list = append(list, math.Float64bits(math.Abs(s.Float(s.Below(60)-40))), math.Float64bits(math.Abs(s.Float(s.Below(8)-4))))
	}
	return list
}

// P18.1
func TestIs(t *testing.T) {
	for n := range 256 {
		f := api.Func(n)
		want := slices.Contains(three, f)
		if trigpi.Is(f) != want {
			t.Errorf("Is(%d) = %v", f, !want)
		}
		if want {
			continue
		}
		for _, p := range append([]int{api.MinBits, 64, api.MaxBits}, wrongBits...) {
			for _, x := range append([]uint64{0, minusZero, 0x3fe0000000000000, greatest, greatest | minusZero}, notFinite...) {
				refused(t, f, x, p, api.ErrRange)
			}
		}
	}
}

// P18.1
func TestEnclose(t *testing.T) {
	for i, x := range bothSigns(amounts()) {
		check(t, x, few[i%len(few)])
	}
}

// P18.1
func TestManyBits(t *testing.T) {
	for _, x := range bothSigns([]uint64{1, 0x3fd0000000000000, 0x3fd0000000000001, 0x3fe0000000000000, 0x3fdfffffffffffff, 0x3fb999999999999a, 0x4008cccccccccccd, 0x4330000000000001, leastNorm + 5, greatest}) {
		for _, p := range []int{1000, api.MaxBits - 1, api.MaxBits} {
			check(t, x, p)
		}
	}
}

// P18.1: all bits that are few.
func TestAllBits(t *testing.T) {
	for p := api.MinBits; p <= 200; p++ {
		check(t, math.Float64bits(float64(p)/7), p)
		check(t, math.Float64bits(0.25)-uint64(p), p)
		check(t, uint64(p), p)
	}
}

// P18.1: the values that are 0 are told as from 0 to 0; of a whole number and a half there is no tangent.
func TestExactValues(t *testing.T) {
	for _, x := range append(bothSigns(quarters()), 0, minusZero) {
		n, _ := float(number(x)).Float64()
		_, half := math.Modf(math.Abs(n))
		for _, p := range []int{api.MinBits, 64, api.MaxBits} {
			sine, why := trigpi.Enclose(api.FuncSinpi, x, p)
			if got := reflect.DeepEqual(sine, api.Ival{}); why != api.OK || got != (half == 0) {
				t.Errorf("the sine of %v half turns to %d bits: %s, error %d", n, p, showIval(sine), why)
			}
			cosine, why := trigpi.Enclose(api.FuncCospi, x, p)
			if got := reflect.DeepEqual(cosine, api.Ival{}); why != api.OK || got != (half == 0.5) {
				t.Errorf("the cosine of %v half turns to %d bits: %s, error %d", n, p, showIval(cosine), why)
			}
			if half == 0.5 {
				refused(t, api.FuncTanpi, x, p, api.ErrWhole)
				continue
			}
			tangent, why := trigpi.Enclose(api.FuncTanpi, x, p)
			if got := reflect.DeepEqual(tangent, api.Ival{}); why != api.OK || got != (half == 0) {
				t.Errorf("the tangent of %v half turns to %d bits: %s, error %d", n, p, showIval(tangent), why)
			}
		}
	}
}

// P18.1: what is not finite; bits that are wrong are refused first, whatever the number is.
func TestRefused(t *testing.T) {
	for _, f := range three {
		for _, x := range notFinite {
			for _, p := range []int{api.MinBits, 64, api.MaxBits} {
				refused(t, f, x, p, api.ErrWhole)
			}
		}
		for _, p := range wrongBits {
			for _, x := range append([]uint64{0, minusZero, 1, 0x3fe0000000000000, greatest, greatest | minusZero}, notFinite...) {
				refused(t, f, x, p, api.ErrRange)
			}
		}
	}
}

// P18.1: whatever is handed in, there is an answer: an error alone, or an enclosure that is right, in its one form, and narrow.
func TestAnything(t *testing.T) {
	list := slices.Concat(probe.Floats(), notFinite, quarters())
	s := probe.Source(7)
	for range 100 {
		list = append(list, s.Word())
	}
	for n := range int(api.FuncCount) + 2 {
		for i, x := range list {
			for _, p := range append([]int{few[i%len(few)]}, wrongBits...) {
				v, why := trigpi.Enclose(api.Func(n), x, p)
				if why == api.OK && !(isForm(v) && narrow(v, p)) || why != api.OK && !reflect.DeepEqual(v, api.Ival{}) {
					t.Errorf("Enclose(%d, %x, %d) = %s, error %d", n, x, p, showIval(v), why)
				}
			}
		}
	}
}

// P18.3
func TestNewMemory(t *testing.T) {
	for _, f := range three {
		for _, x := range bothSigns([]uint64{0, 1, 0x3fb999999999999a, 0x3fd0000000000000, 0x3fe0000000000000, 0x3fe8000000000000, 0x3ff0000000000000, 0x3ff4cccccccccccd, 0x3ff8000000000000, greatest}) {
			for _, p := range []int{api.MinBits, 64, 500} {
				var answers []api.Nat
				for range 2 {
					v, _ := trigpi.Enclose(f, x, p)
					answers = append(answers, v.Lo.Abs, v.Hi.Abs)
				}
				if !probe.Apart(answers) {
					t.Errorf("answers of Enclose(%d, %x, %d) share memory", f, x, p)
				}
			}
		}
	}
}

// The chapter's examples.
func TestExamples(t *testing.T) {
	half, quarter := uint64(0x3fe0000000000000), uint64(0x3fd0000000000000)
	if v, why := trigpi.Enclose(api.FuncSinpi, half, 64); why != api.OK || !ival.Has(v, of(1, 0)) || !narrow(v, 64) {
		t.Errorf("the sine of 1/2: %s, error %d", showIval(v), why)
	}
	if v, why := trigpi.Enclose(api.FuncCospi, half, 64); why != api.OK || !reflect.DeepEqual(v, api.Ival{}) {
		t.Errorf("the cosine of 1/2: %s, error %d", showIval(v), why)
	}
	refused(t, api.FuncTanpi, half, 64, api.ErrWhole)
	if v, why := trigpi.Enclose(api.FuncTanpi, quarter, 64); why != api.OK || !ival.Has(v, of(1, 0)) || !narrow(v, 64) {
		t.Errorf("the tangent of 1/4: %s, error %d", showIval(v), why)
	}
	if v, why := trigpi.Enclose(api.FuncSinpi, 0x4330000000000001, 64); why != api.OK || !reflect.DeepEqual(v, api.Ival{}) {
		t.Errorf("the sine of 2^52 + 1: %s, error %d", showIval(v), why)
	}
	sine, cosine, why := trigpi.Both(of(1, 1000), 64)
	if why != api.OK || !reflect.DeepEqual(sine, api.Ival{}) || !ival.Has(cosine, of(1, 0)) || !narrow(cosine, 64) {
		t.Errorf("Both(2^1000, 64) = %s, %s, error %d", showIval(sine), showIval(cosine), why)
	}
}
