package logfam_test

import (
	"math"
	"reflect"
	"slices"
	"testing"

	"ulp/api"
	"ulp/bits"
	"ulp/ival"
	"ulp/logfam"
	"ulp/probe"
)

const (
	minusZero uint64 = 1 << 63
	greatest  uint64 = 0x7fefffffffffffff
	leastNorm uint64 = 0x0010000000000000
	infinity  uint64 = 0x7ff0000000000000
	one       uint64 = 0x3ff0000000000000
)

// few are bits that take little time; wrongBits are those to which nothing is enclosed.
var (
	few       = []int{api.MinBits, 9, 24, 53, 64, 100, 128, 160, 333}
	wrongBits = []int{api.MinBits - 1, 1, 0, -1, -64, math.MinInt, math.MaxInt}
)

// notFinite are the infinities, and what is no number: quiet and signalling, of either sign.
var notFinite = []uint64{infinity, infinity | minusZero, 0x7ff8000000000000, 0xfff8000000000000, 0x7ff0000000000001, 0xfff0000000000001, 0x7fffffffffffffff, math.MaxUint64, 0x7ff4000000000000, 0xfff7ffffffffffff}

// aboveZero are binary64 numbers: edges, the neighbourhoods of 1, of whole numbers and of powers of 2, and some without a pattern.
func aboveZero() []uint64 {
	list := []uint64{1, 2, 3, leastNorm - 1, leastNorm, leastNorm + 1, 0x0008000000000001, greatest - 1, greatest}
	for i := range uint64(6) {
		list = append(list, one+i, one-i, one+1<<(8*i), one-1<<(8*i))
	}
	for _, n := range []float64{2, 3, 7, 10, 100, 1e22, 1e23, 0.1, 0.5, 0.75, 1.5, math.E, 1.1, 0.9} {
		x := math.Float64bits(n)
		list = append(list, x, x-1, x+1)
	}
	for e := uint64(1); e < 2047; e += 40 {
		list = append(list, e<<52, e<<52+1, e<<52-1)
	}
	s := probe.Source(16)
	for range 60 {
		list = append(list, math.Float64bits(math.Abs(s.Float(s.Below(2046)-1022))), math.Float64bits(math.Abs(s.Float(s.Below(8)-4))))
	}
	slices.Sort(list)
	return slices.Compact(list)
}

// aboveMinusOne are these, 0, and numbers from just above -1 to just below 0.
func aboveMinusOne() []uint64 {
	list := append(aboveZero(), 0, minusZero)
	for _, x := range aboveZero() {
		if x < one {
			list = append(list, bits.Neg(x))
		}
	}
	return list
}

// domain are numbers of which the function has a value.
func (k kind) domain() []uint64 {
	if k.more {
		return aboveMinusOne()
	}
	return aboveZero()
}

// outside are finite numbers of which it has none, from the greatest down.
func (k kind) outside() []uint64 {
	list := []uint64{bits.Neg(one), bits.Neg(one + 1), bits.Neg(one + 2), bits.Neg(0x4000000000000000), bits.Neg(0x4024000000000000), bits.Neg(greatest - 1), bits.Neg(greatest)}
	if !k.more {
		list = append(list, 0, minusZero, bits.Neg(1), bits.Neg(leastNorm), bits.Neg(one-1), bits.Neg(0x3fe0000000000000))
	}
	return list
}

// P16.1
func TestIs(t *testing.T) {
	for n := range 256 {
		f := api.Func(n)
		want := f == api.FuncLog || f == api.FuncLog2 || f == api.FuncLog10 || f == api.FuncLog1p || f == api.FuncLog2p1 || f == api.FuncLog10p1
		if logfam.Is(f) != want {
			t.Errorf("Is(%d) = %v", f, !want)
		}
		if want {
			continue
		}
		for _, p := range append([]int{api.MinBits, 64, api.MaxBits, api.MaxBits + 1}, wrongBits...) {
			for _, x := range append([]uint64{0, minusZero, one, bits.Neg(one), greatest, bits.Neg(greatest)}, notFinite...) {
				refused(t, f, x, p, api.ErrRange)
			}
		}
	}
}

// P16.1
func TestEnclose(t *testing.T) {
	for _, k := range kinds {
		for i, x := range k.domain() {
			for j := range 2 {
				k.check(t, x, few[(i+4*j)%len(few)])
			}
		}
	}
}

// P16.1
func TestManyBits(t *testing.T) {
	for _, k := range kinds {
		for _, x := range []uint64{1, leastNorm, 0x3fb999999999999a, one - 1, one + 1, 0x4000000000000000, 0x4024000000000000, greatest} {
			for _, p := range []int{1000, api.MaxBits - 1, api.MaxBits} {
				k.check(t, x, p)
			}
		}
		if k.more {
			for _, x := range []uint64{bits.Neg(1), bits.Neg(one - 1), bits.Neg(0x3fe0000000000000)} {
				k.check(t, x, api.MaxBits)
			}
		}
	}
}

// P16.1: all bits that are few, next to 1, at the greatest numbers and at the least.
func TestAllBits(t *testing.T) {
	for _, k := range kinds {
		for p := api.MinBits; p <= 250; p++ {
			k.check(t, uint64(p), p)
			k.check(t, one+uint64(p), p)
			k.check(t, one-uint64(p), p)
			k.check(t, greatest-uint64(p), p)
		}
	}
}

// P16.1: where the logarithm is 0: of 1, and of 1 more than each of both zeros.
func TestZero(t *testing.T) {
	for _, k := range kinds {
		list := []uint64{one}
		if k.more {
			list = []uint64{0, minusZero}
		}
		for _, x := range list {
			for _, p := range []int{api.MinBits, 64, api.MaxBits} {
				if v, why := logfam.Enclose(k.f, x, p); why != api.OK || !reflect.DeepEqual(v, api.Ival{}) {
					t.Errorf("Enclose(%d, %x, %d) = %s, error %d, want from 0 to 0", k.f, x, p, showIval(v), why)
				}
			}
		}
	}
}

// P16.1: what is not finite, and what is outside the domain: just there, and far.
func TestOutside(t *testing.T) {
	for _, k := range kinds {
		for _, x := range append(k.outside(), notFinite...) {
			for _, p := range []int{api.MinBits, 64, api.MaxBits} {
				refused(t, k.f, x, p, api.ErrWhole)
			}
		}
	}
}

// P16.1: bits just beyond those that may be asked for, and far beyond, whatever the number is.
func TestWrongBits(t *testing.T) {
	for _, k := range kinds {
		for _, p := range append([]int{api.MaxBits + 1, api.MaxCore - 128, api.MaxCore}, wrongBits...) {
			for _, x := range slices.Concat([]uint64{1, one, greatest}, k.outside(), notFinite) {
				refused(t, k.f, x, p, api.ErrRange)
			}
		}
	}
}

// P16.1: whatever is handed in, there is an answer: an error alone, or an enclosure that is right, in its one form, and narrow.
func TestAnything(t *testing.T) {
	list := slices.Concat(probe.Floats(), notFinite)
	s := probe.Source(7)
	for range 100 {
		list = append(list, s.Word())
	}
	for n := range int(api.FuncCount) + 2 {
		for i, x := range list {
			for _, p := range append([]int{few[i%len(few)]}, wrongBits...) {
				v, why := logfam.Enclose(api.Func(n), x, p)
				if why == api.OK && !(isForm(v) && narrow(v, p)) || why != api.OK && !reflect.DeepEqual(v, api.Ival{}) {
					t.Errorf("Enclose(%d, %x, %d) = %s, error %d", n, x, p, showIval(v), why)
				}
			}
		}
	}
}

// P16.4
func TestNewMemory(t *testing.T) {
	for _, k := range kinds {
		for _, x := range []uint64{0, 1, one, one + 1, one - 1, 0x4000000000000000, 0x4024000000000000, greatest} {
			for _, p := range []int{api.MinBits, 64, 500} {
				var answers []api.Nat
				for range 2 {
					v, _ := logfam.Enclose(k.f, x, p)
					answers = append(answers, v.Lo.Abs, v.Hi.Abs)
				}
				if !probe.Apart(answers) {
					t.Errorf("answers of Enclose(%d, %x, %d) share memory", k.f, x, p)
				}
			}
		}
	}
}

// The chapter's examples.
func TestExamples(t *testing.T) {
	if v, why := logfam.Enclose(api.FuncLog2, 0x4020000000000000, 64); why != api.OK || !ival.Has(v, of(3, 0)) || !ival.Narrow(v, 64) {
		t.Errorf("the logarithm of 8 to the base 2: %s, error %d", showIval(v), why)
	}
	for _, c := range []struct {
		f api.Func
		x uint64
	}{{api.FuncLog, 0x3ff0000000000000}, {api.FuncLog1p, 0x8000000000000000}} {
		if v, why := logfam.Enclose(c.f, c.x, 64); why != api.OK || !reflect.DeepEqual(v, api.Ival{}) {
			t.Errorf("Enclose(%d, %x, 64) = %s, error %d", c.f, c.x, showIval(v), why)
		}
	}
	refused(t, api.FuncLog, 0, 64, api.ErrWhole)
	refused(t, api.FuncLog1p, 0xbff0000000000000, 64, api.ErrWhole)
	for _, c := range []struct {
		base int
		x    uint64
		n    int
		is   bool
	}{{2, 1, -1074, true}, {10, 0x4024000000000000, 1, true}, {10, 0x3fb999999999999a, 0, false}, {2, 0x4024000000000000, 0, false}} {
		if n, is := logfam.Whole(c.base, c.x); n != c.n || is != c.is {
			t.Errorf("Whole(%d, %x) = %d, %v", c.base, c.x, n, is)
		}
	}
}
