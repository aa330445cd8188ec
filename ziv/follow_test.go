package ziv_test

import (
	"math"
	"reflect"
	"slices"
	"testing"

	"ulp/alg"
	"ulp/api"
	"ulp/bits"
	"ulp/dyad"
	"ulp/exact"
	"ulp/ival"
	"ulp/power"
	"ulp/probe"
	"ulp/round"
	"ulp/ziv"
)

// odd are the functions of one argument of which the value at -x is less that at x; even those of which it is the same.
var (
	odd  = []api.Func{api.FuncSin, api.FuncTan, api.FuncSinpi, api.FuncTanpi, api.FuncAsin, api.FuncAtan, api.FuncAsinpi, api.FuncAtanpi, api.FuncSinh, api.FuncTanh, api.FuncAsinh, api.FuncAtanh, api.FuncCbrt}
	even = []api.Func{api.FuncCos, api.FuncCospi, api.FuncCosh}
)

// rising are the functions that do not fall.
var rising = []api.Func{
	api.FuncExp, api.FuncExp2, api.FuncExp10, api.FuncExpm1, api.FuncExp2m1, api.FuncExp10m1,
	api.FuncLog, api.FuncLog2, api.FuncLog10, api.FuncLog1p, api.FuncLog2p1, api.FuncLog10p1,
	api.FuncAsin, api.FuncAtan, api.FuncAsinpi, api.FuncAtanpi, api.FuncSinh, api.FuncTanh, api.FuncAsinh, api.FuncAcosh, api.FuncAtanh, api.FuncCbrt,
}

// told is the value of an exact case, if it is one.
func told(f api.Func, x, y uint64) (api.Dyad, bool) {
	var d api.Dyad
	var is bool
	switch {
	case f == api.FuncPow:
		d, is, _ = power.Exact(x, y)
	case exact.Is2(f):
		d, is, _ = exact.Exact2(f, x, y)
	default:
		d, is, _ = exact.Exact(f, x)
	}
	return d, is
}

// between is all numbers that are rounded to a finite binary64, with the points of change at the ends.
func between(x uint64) api.Ival {
	lo, _ := round.Mid(bits.Neg(x))
	lo, _ = dyad.Neg(lo)
	hi, _ := round.Mid(x)
	return api.Ival{Lo: lo, Hi: hi}
}

// isBeyond tells whether an enclosure lies, as far as it shows, from the last point of change on outward.
func isBeyond(v api.Ival, neg bool) bool {
	if neg {
		v, _ = ival.Neg(v)
	}
	last, _ := round.Mid(word(greatest))
	order, why := dyad.Cmp(v.Hi, last)
	return why == api.OK && order >= 0
}

// checkNoNearer holds what is answered against an enclosure; wholly: it must lie all between the points of change.
func checkNoNearer(t *testing.T, f api.Func, x, y uint64, r api.Result, p int, wholly bool) {
	t.Helper()
	v, why := ziv.Enclose(f, x, y, p)
	right := false
	switch {
	case why == api.ErrMany:
		right = r.Flags == over && bits.Class(r.Bits) == api.ClassInf || r.Flags == under && bits.Class(r.Bits) == api.ClassZero
	case why != api.OK:
	case bits.Class(r.Bits) == api.ClassInf:
		right = r.Flags == over && isBeyond(v, r.Bits == word(-infinity))
	case wholly:
		right = ival.Within(v, between(r.Bits))
	default:
		right = ival.Meets(v, between(r.Bits))
	}
	if !right {
		t.Errorf("Round(%d, %x, %x) = %x, flags %d; to %d bits it is enclosed from %v to %v, error %d", f, x, y, r.Bits, r.Flags, p, v.Lo, v.Hi, why)
	}
}

// 25.3, 25.4, 25.5, 25.6: no other number is nearer; Inexact just where the value is not told; the same at each stage.
func TestNoNearer(t *testing.T) {
	list := append(sides(), others(7, 60)...)
	for _, f := range all() {
		if isAlgebraic(f) {
			continue
		}
		for _, a := range arguments(f, list) {
			x, y := word(a[0]), word(a[1])
			if !hasValue(f, a[0], a[1]) {
				continue
			}
			r := rounded(t, f, x, y)
			if d, is := told(f, x, y); is {
				if near, _ := round.Near(d); near != r {
					t.Errorf("Round(%d, %g, %g) = %x, flags %d, but the value is told: %v", f, a[0], a[1], r.Bits, r.Flags, d)
				}
				checkNoNearer(t, f, x, y, r, 64, false)
				continue
			}
			if r.Flags&api.Inexact == 0 {
				t.Errorf("Round(%d, %g, %g) = %x is told to be exact", f, a[0], a[1], r.Bits)
			}
			checkNoNearer(t, f, x, y, r, api.MinBits, false)
			checkNoNearer(t, f, x, y, r, 150, true)
		}
	}
}

// 25.3, 25.5: what is rounded without an enclosure is what alg answers, but of the sign of 0.
func TestAlgebraic(t *testing.T) {
	list := append(sides(), others(8, 60)...)
	for _, f := range algebraic {
		for _, a := range arguments(f, list) {
			x, y := word(a[0]), word(a[1])
			if !hasValue(f, a[0], a[1]) {
				continue
			}
			want, _ := alg.Hypot(x, y)
			switch f {
			case api.FuncCbrt:
				want, _ = alg.Cbrt(x)
			case api.FuncRsqrt:
				want, _ = alg.Rsqrt(x)
			}
			if want.Bits == word(minusZero) {
				want.Bits = 0
			}
			if r := rounded(t, f, x, y); r != want {
				t.Errorf("Round(%d, %g, %g) = %x, flags %d, want %x, flags %d", f, a[0], a[1], r.Bits, r.Flags, want.Bits, want.Flags)
			}
		}
	}
}

// 25.5: flags go with what is answered, as round has it.
func TestFlags(t *testing.T) {
	list := append(sides(), others(9, 60)...)
	for _, f := range all() {
		for _, a := range arguments(f, list) {
			r, why := ziv.Round(f, word(a[0]), word(a[1]), 0)
			if why != api.OK {
				continue
			}
			class := bits.Class(r.Bits)
			isOver, isUnder := r.Flags&api.Overflow != 0, r.Flags&api.Underflow != 0
			right := r.Flags&^(over|under) == 0 && class != api.ClassQuiet && class != api.ClassSignal
			right = right && isOver == (class == api.ClassInf) && !(isOver && isUnder) && !((isOver || isUnder) && r.Flags&api.Inexact == 0)
			if r.Flags&api.Inexact != 0 {
				small := bits.Less(bits.Abs(r.Bits), word(leastNorm))
				right = right && (isUnder == small || isUnder && bits.Abs(r.Bits) == word(leastNorm))
			}
			if !right {
				t.Errorf("Round(%d, %g, %g) = %x, flags %d", f, a[0], a[1], r.Bits, r.Flags)
			}
		}
	}
}

// ladder is a list of numbers, rising, with neighbours beside one another.
func ladder() []float64 {
	list := append(sides(), others(10, 80)...)
	for _, x := range others(11, 30) {
		list = append(list, x, up(x), up(up(x)), -x, -up(x))
	}
	slices.Sort(list)
	return list
}

// 25.7
func TestRising(t *testing.T) {
	for _, f := range rising {
		last, lastAt, count := word(-infinity), -infinity, 0
		for _, x := range ladder() {
			if !hasValue(f, x, 0) {
				continue
			}
			r, why := ziv.Round(f, word(x), 0, 0)
			if why != api.OK || bits.Less(r.Bits, last) {
				t.Errorf("function %d at %g is %x, error %d, but %x at %g", f, x, r.Bits, why, last, lastAt)
			}
			last, lastAt = r.Bits, x
			count++
		}
		if count < 50 {
			t.Errorf("function %d: only %d numbers", f, count)
		}
	}
}

// 25.7: of bases above 1 powers do not fall as the exponent rises; of exponents above 0 they do not as the base does.
func TestRisingPowers(t *testing.T) {
	for _, base := range []float64{up(1), 1.5, 2, 10, 1e300} {
		last := uint64(0)
		for _, y := range ladder() {
			r, why := ziv.Round(api.FuncPow, word(base), word(y), 0)
			if why != api.OK || bits.Less(r.Bits, last) {
				t.Errorf("%g to the power of %g is %x, error %d, less than ahead of it", base, y, r.Bits, why)
			}
			last = r.Bits
		}
	}
}

// mirror is what is answered of the other sign: the other sign, but of +0.
func mirror(r api.Result) api.Result {
	if r != (api.Result{}) {
		r.Bits = bits.Neg(r.Bits)
	}
	return r
}

// 25.8
func TestMirror(t *testing.T) {
	list := append(sides(), others(12, 60)...)
	for _, x := range list {
		for _, f := range odd {
			if hasValue(f, x, 0) {
				if r, other := rounded(t, f, word(x), 0), rounded(t, f, word(-x), 0); other != mirror(r) {
					t.Errorf("function %d at %g is %x, flags %d, at less that %x, flags %d", f, x, r.Bits, r.Flags, other.Bits, other.Flags)
				}
			}
		}
		for _, f := range even {
			if r, other := rounded(t, f, word(x), 0), rounded(t, f, word(-x), 0); other != r {
				t.Errorf("function %d at %g is %x, flags %d, at less that %x, flags %d", f, x, r.Bits, r.Flags, other.Bits, other.Flags)
			}
		}
	}
}

// 25.8: points that lie below the axis, distances of any signs, powers of numbers below 0.
func TestMirrorOfTwo(t *testing.T) {
	for _, a := range arguments(api.FuncHypot, append(sides(), others(13, 40)...)) {
		x, y := word(a[0]), word(a[1])
		for _, f := range []api.Func{api.FuncAtan2, api.FuncAtan2pi} {
			if a[0] == 0 {
				continue
			}
			if r, other := rounded(t, f, x, y), rounded(t, f, bits.Neg(x), y); other != mirror(r) {
				t.Errorf("function %d at %g, %g is %x, at less the first %x", f, a[0], a[1], r.Bits, other.Bits)
			}
		}
		r := rounded(t, api.FuncHypot, x, y)
		for _, b := range [][2]uint64{{bits.Neg(x), y}, {x, bits.Neg(y)}, {y, x}} {
			if other := rounded(t, api.FuncHypot, b[0], b[1]); other != r {
				t.Errorf("the distance of %g, %g is %x, turned round %x", a[0], a[1], r.Bits, other.Bits)
			}
		}
		if a[0] == 0 || !bits.Whole(y) {
			continue
		}
		amount, other := rounded(t, api.FuncPow, bits.Abs(x), y), rounded(t, api.FuncPow, bits.Abs(x)|1<<63, y)
		if bits.Odd(y) {
			amount.Bits = bits.Neg(amount.Bits)
		}
		if other != amount {
			t.Errorf("%g to the power of %g is %x, of less the amount %x", a[0], a[1], amount.Bits, other.Bits)
		}
	}
}

// goes are Go's own functions where it has them: they are known to lie within a few units.
func goes(f api.Func) func(float64) float64 {
	return map[api.Func]func(float64) float64{
		api.FuncExp: math.Exp, api.FuncExp2: math.Exp2, api.FuncExpm1: math.Expm1, api.FuncLog: math.Log, api.FuncLog1p: math.Log1p,
		api.FuncSin: math.Sin, api.FuncCos: math.Cos, api.FuncTan: math.Tan, api.FuncAsin: math.Asin, api.FuncAcos: math.Acos, api.FuncAtan: math.Atan,
		api.FuncSinh: math.Sinh, api.FuncCosh: math.Cosh, api.FuncTanh: math.Tanh, api.FuncAsinh: math.Asinh, api.FuncAcosh: math.Acosh, api.FuncAtanh: math.Atanh, api.FuncCbrt: math.Cbrt,
	}[f]
}

// 25.3: many ordinary numbers, held against Go's own library.
func TestNearGo(t *testing.T) {
	s := probe.Source(14)
	for _, f := range all() {
		library := goes(f)
		if library == nil {
			continue
		}
		for range 300 {
			x := s.Float(s.Below(12) - 7)
			if !hasValue(f, x, 0) {
				continue
			}
			r, why := ziv.Round(f, word(x), 0, 0)
			got, want := math.Float64frombits(r.Bits), library(x)
			if why != api.OK || math.Abs(got-want) > 0x1p-40*math.Abs(want) {
				t.Errorf("function %d at %g is %g, error %d, but Go has %g", f, x, got, why, want)
			}
		}
	}
}

// P1, 25.1, 25.2, 25.3: whatever is handed in, there is an answer, and always the same.
func TestAnything(t *testing.T) {
	s := probe.Source(15)
	list := slices.Concat(notFinite, []uint64{0, 1 << 63, 1, word(1), word(-1), word(0.5), word(greatest), word(-least)})
	for n := range 256 {
		f := api.Func(n)
		for i := range 60 {
			x, y := s.Word(), s.Word()
			if i%4 == 0 {
				x = list[s.Below(len(list))]
			}
			if i%5 == 0 {
				y = list[s.Below(len(list))]
			}
			stage, p := s.Below(5)-1, s.Below(90)-5
			r, why := ziv.Round(f, x, y, stage)
			again, whyToo := ziv.Round(f, x, y, stage)
			if r != again || why != whyToo || why != api.OK && r != (api.Result{}) || why == api.ErrMany || why == api.ErrHard {
				t.Errorf("Round(%d, %x, %x, %d) = %x, flags %d, error %d", f, x, y, stage, r.Bits, r.Flags, why)
			}
			v, why := ziv.Enclose(f, x, y, p)
			w, whyToo := ziv.Enclose(f, x, y, p)
			if why != whyToo || !reflect.DeepEqual(v, w) || why != api.OK && !reflect.DeepEqual(v, api.Ival{}) {
				t.Errorf("Enclose(%d, %x, %x, %d) = %v, error %d", f, x, y, p, v, why)
			}
			if ziv.Real(f, x, y) && !ziv.Is(f) || ziv.Two(f) && !ziv.Is(f) {
				t.Errorf("function %d has a value, but is none", f)
			}
		}
	}
}

// New memory: answers share none with one another.
func TestNewMemory(t *testing.T) {
	for _, f := range all() {
		for _, x := range []float64{0, 0.25, 0.7, 1, -1, 3} {
			v, _ := ziv.Enclose(f, word(x), word(2), 64)
			w, _ := ziv.Enclose(f, word(x), word(2), 64)
			if !probe.Apart([]api.Nat{v.Lo.Abs, v.Hi.Abs, w.Lo.Abs, w.Hi.Abs}) {
				t.Errorf("answers of Enclose(%d, %g) share memory", f, x)
			}
		}
	}
}
