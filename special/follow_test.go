package special_test

import (
	"math"
	"slices"
	"testing"

	"ulp/api"
	"ulp/bits"
	"ulp/exact"
	"ulp/probe"
	"ulp/special"
)

// words are those of all numbers of the tests, what is no number, and some without a pattern.
func words() []uint64 {
	list := slices.Concat(quiet, signalling)
	for _, x := range numbers() {
		list = append(list, word(x))
	}
	s := probe.Source(6)
	for range 40 {
		list = append(list, s.Word(), word(s.Float(s.Below(20)-10)))
	}
	return list
}

func isNaN(x uint64) bool { return bits.Abs(x) > inf }

func isFinite(x uint64) bool { return bits.Abs(x) < inf }

// checkKind holds the flags and the number of an answer against its kind.
func checkKind(t *testing.T, f api.Func, x, y uint64) {
	t.Helper()
	r, k, why := special.Special(f, x, y)
	given := []uint64{x}
	if slices.Contains(twos, f) {
		given = append(given, y)
	}
	right := false
	switch k {
	case api.RowNone:
		right = r == api.Result{} && !slices.ContainsFunc(given, isNaN)
	case api.RowNaN:
		want := api.Result{Bits: nan}
		if slices.ContainsFunc(given, func(x uint64) bool { return bits.Class(x) == api.ClassSignal }) {
			want.Flags = api.Invalid
		}
		right = r == want && slices.ContainsFunc(given, isNaN)
	case api.RowDomain:
		right = r == api.Result{Bits: nan, Flags: api.Invalid} && !slices.ContainsFunc(given, isNaN)
	case api.RowPole:
		right = bits.Abs(r.Bits) == inf && r.Flags == api.DivByZero && !slices.ContainsFunc(given, func(x uint64) bool { return !isFinite(x) })
	case api.RowExact:
		right = r.Flags == 0 && !isNaN(r.Bits)
	case api.RowLimit:
		right = r.Flags == api.Inexact && isFinite(r.Bits)
	}
	if why != api.OK || !right {
		t.Errorf("Special(%s, %x, %x) = %x, flags %d, kind %d, error %d", special.Name(f), x, y, r.Bits, r.Flags, k, why)
	}
}

// P24.4
func TestKinds(t *testing.T) {
	list := words()
	for _, f := range every() {
		for _, x := range list {
			for _, y := range list {
				checkKind(t, f, x, y)
			}
		}
	}
}

// P24.2: at finite numbers a function is inside its domain just where it has a real value (chapter 23).
func TestDomains(t *testing.T) {
	for _, f := range every() {
		for _, x := range words() {
			if exact.Is(f) && special.Inside(f, x, 0) != exact.Domain(f, x) {
				t.Errorf("Inside(%s, %x) = %v", special.Name(f), x, special.Inside(f, x, 0))
			}
		}
	}
}

// turned is a result with the other sign, but where it is no number.
func turned(r api.Result, k api.RowKind) api.Result {
	if k != api.RowNone && !isNaN(r.Bits) {
		r.Bits = bits.Neg(r.Bits)
	}
	return r
}

// P24.5
func TestOddFunctions(t *testing.T) {
	for _, name := range []string{"sin", "tan", "sinpi", "tanpi", "asin", "atan", "asinpi", "atanpi", "sinh", "tanh", "asinh", "atanh", "cbrt"} {
		f, _ := special.Find(name)
		for _, x := range words() {
			r, k, _ := special.Special(f, x, 0)
			expect(t, f, bits.Neg(x), 0, turned(r, k), k)
		}
	}
}

// P24.6
func TestTurned(t *testing.T) {
	list := words()
	for _, x := range list {
		for _, y := range list {
			r, k, _ := special.Special(api.FuncHypot, x, y)
			expect(t, api.FuncHypot, y, x, r, k)
			expect(t, api.FuncHypot, bits.Neg(x), y, r, k)
			expect(t, api.FuncHypot, x, bits.Neg(y), r, k)
			expect(t, api.FuncHypot, bits.Neg(y), bits.Neg(x), r, k)
			for _, f := range []api.Func{api.FuncAtan2, api.FuncAtan2pi} {
				r, k, _ := special.Special(f, x, y)
				expect(t, f, bits.Neg(x), y, turned(r, k), k)
			}
		}
	}
}

// library are the functions that Go's own library has: at the arguments of rows it answers what annex F asks, too.
func library() map[api.Func]func(x float64) float64 {
	return map[api.Func]func(x float64) float64{
		api.FuncExp: math.Exp, api.FuncExp2: math.Exp2, api.FuncExpm1: math.Expm1,
		api.FuncLog: math.Log, api.FuncLog2: math.Log2, api.FuncLog10: math.Log10, api.FuncLog1p: math.Log1p,
		api.FuncSin: math.Sin, api.FuncCos: math.Cos, api.FuncTan: math.Tan,
		api.FuncAsin: math.Asin, api.FuncAcos: math.Acos, api.FuncAtan: math.Atan,
		api.FuncSinh: math.Sinh, api.FuncCosh: math.Cosh, api.FuncTanh: math.Tanh,
		api.FuncAsinh: math.Asinh, api.FuncAcosh: math.Acosh, api.FuncAtanh: math.Atanh,
		api.FuncCbrt: math.Cbrt, api.FuncRsqrt: func(x float64) float64 { return 1 / math.Sqrt(x) },
	}
}

// sameAs tells whether a result is a float of the library.
func sameAs(r api.Result, x float64) bool {
	return r.Bits == word(x) || isNaN(r.Bits) && math.IsNaN(x)
}

// P24.2: held against a library that others have written.
func TestLibrary(t *testing.T) {
	for f, other := range library() {
		for _, x := range words() {
			got := other(math.Float64frombits(x))
			if r, k, _ := special.Special(f, x, 0); k != api.RowNone && !sameAs(r, got) {
				t.Errorf("%s of %x = %x, the library has %x", special.Name(f), x, r.Bits, word(got))
			} else if k == api.RowNone && math.IsNaN(got) {
				t.Errorf("%s of %x is in no row", special.Name(f), x)
			}
		}
	}
	for f, other := range map[api.Func]func(x, y float64) float64{api.FuncAtan2: math.Atan2, api.FuncPow: math.Pow, api.FuncHypot: math.Hypot} {
		for _, x := range words() {
			for _, y := range words() {
				if bits.Class(x) == api.ClassSignal || bits.Class(y) == api.ClassSignal { // the library does not mind signals
					continue
				}
				got := other(math.Float64frombits(x), math.Float64frombits(y))
				if r, k, _ := special.Special(f, x, y); k != api.RowNone && !sameAs(r, got) {
					t.Errorf("%s of %x, %x = %x, the library has %x", special.Name(f), x, y, r.Bits, word(got))
				} else if k == api.RowNone && math.IsNaN(got) {
					t.Errorf("%s of %x, %x is in no row", special.Name(f), x, y)
				}
			}
		}
	}
}
