package ziv_test

import (
	"math"
	"reflect"
	"slices"
	"testing"

	"ulp/api"
	"ulp/bits"
	"ulp/expfam"
	"ulp/hyper"
	"ulp/invtrig"
	"ulp/ival"
	"ulp/logfam"
	"ulp/power"
	"ulp/probe"
	"ulp/trig"
	"ulp/trigpi"
	"ulp/ziv"
)

const (
	greatest  = math.MaxFloat64
	least     = math.SmallestNonzeroFloat64
	leastNorm = 0x1p-1022
)

var (
	minusZero = math.Copysign(0, -1)
	infinity  = math.Inf(1)
)

// algebraic are the functions that are rounded without an enclosure; two those of two arguments.
var (
	algebraic = []api.Func{api.FuncCbrt, api.FuncRsqrt, api.FuncHypot}
	two       = []api.Func{api.FuncAtan2, api.FuncAtan2pi, api.FuncPow, api.FuncHypot}
)

// notFinite are the infinities, and what is no number: quiet and signalling, of either sign.
var notFinite = []uint64{word(infinity), word(-infinity), 0x7ff8000000000000, 0xfff8000000000000, 0x7ff0000000000001, 0xfff0000000000001, 0x7fffffffffffffff, math.MaxUint64, 0x7ff4000000000000, 0xfff7ffffffffffff}

// wrongStages are those that there are not.
var wrongStages = []int{-1, 3, 4, math.MinInt, math.MaxInt}

// wrongBits are those that none may ask for.
var wrongBits = []int{api.MinBits - 1, api.MaxBits + 1, 0, -1, math.MinInt, math.MaxInt}

func word(x float64) uint64 { return math.Float64bits(x) }

func up(x float64) float64 { return math.Nextafter(x, infinity) }

func down(x float64) float64 { return math.Nextafter(x, -infinity) }

// all are the functions.
func all() []api.Func {
	var list []api.Func
	for f := api.FuncExp; f <= api.FuncHypot; f++ {
		list = append(list, f)
	}
	return list
}

func isTwo(f api.Func) bool { return slices.Contains(two, f) }

func isAlgebraic(f api.Func) bool { return slices.Contains(algebraic, f) }

// isWhole tells whether a finite number is.
func isWhole(x float64) bool { return x == math.Trunc(x) }

// hasValue tells whether a function has a real value at finite numbers.
func hasValue(f api.Func, x, y float64) bool {
	switch f {
	case api.FuncLog, api.FuncLog2, api.FuncLog10, api.FuncRsqrt:
		return x > 0
	case api.FuncLog1p, api.FuncLog2p1, api.FuncLog10p1:
		return x > -1
	case api.FuncTanpi:
		return math.Mod(math.Abs(x), 1) != 0.5
	case api.FuncAsin, api.FuncAcos, api.FuncAsinpi, api.FuncAcospi:
		return x >= -1 && x <= 1
	case api.FuncAcosh:
		return x >= 1
	case api.FuncAtanh:
		return x > -1 && x < 1
	case api.FuncAtan2, api.FuncAtan2pi:
		return x != 0 || y != 0
	case api.FuncPow:
		return x > 0 || x < 0 && isWhole(y)
	default:
		return true
	}
}

// sides are numbers at which domains end, cases are exact or rounding changes, with their neighbours, of either sign.
func sides() []float64 {
	list := []float64{0, minusZero, greatest, -greatest, down(greatest), -down(greatest)}
	for _, x := range []float64{least, leastNorm, 0x1p-500, 0x1p-54, 0x1p-53, 0x1p-26, 0.25, 0.5, 0.75, 1, 1.5, 2, 2.5, 3, 9, 10, 16, 23, 54, 99, 709.782712893384, 745.1332191019412, 1000, 1022, 1024, 1075, 1e22, 1<<52 - 0.5, 1 << 53, 1e300} {
		list = append(list, x, up(x), down(x), -x, -up(x), -down(x))
	}
	return list
}

// others are numbers without a pattern, from tiny to great.
func others(seed uint64, n int) []float64 {
	s := probe.Source(seed)
	var list []float64
	for range n {
		list = append(list, s.Float(s.Below(2046)-1022), s.Float(s.Below(20)-10), s.Float(s.Below(6)-4))
	}
	return list
}

// arguments are pairs at which functions are asked: a function of one gets each number of a list once, with something beside it that is no matter.
func arguments(f api.Func, list []float64) [][2]float64 {
	var pairs [][2]float64
	for i, x := range list {
		pairs = append(pairs, [2]float64{x, list[(i*7+3)%len(list)]})
		if isTwo(f) {
			for _, k := range []int{11, 29} {
				pairs = append(pairs, [2]float64{x, list[(i*k+5)%len(list)]})
			}
		}
	}
	return pairs
}

// rounded is what must be answered, at each stage the same.
func rounded(t *testing.T, f api.Func, x, y uint64) api.Result {
	t.Helper()
	first, why := ziv.Round(f, x, y, 0)
	if why != api.OK {
		t.Fatalf("Round(%d, %x, %x, 0): error %d", f, x, y, why)
	}
	for stage := 1; stage < 3; stage++ {
		if r, why := ziv.Round(f, x, y, stage); r != first || why != api.OK {
			t.Errorf("Round(%d, %x, %x, %d) = %x, flags %d, error %d; at the stage 0 %x, flags %d", f, x, y, stage, r.Bits, r.Flags, why, first.Bits, first.Flags)
		}
	}
	return first
}

// is: that is answered, at each stage.
func is(t *testing.T, f api.Func, x, y, want float64, flags api.Flags) {
	t.Helper()
	isWord(t, row{f, word(x), word(y), word(want), flags})
}

func isWord(t *testing.T, want row) {
	t.Helper()
	if r := rounded(t, want.f, want.x, want.y); r != (api.Result{Bits: want.value, Flags: want.flags}) {
		t.Errorf("Round(%d, %x (%g), %x) = %x, flags %d, want %x, flags %d", want.f, want.x, math.Float64frombits(want.x), want.y, r.Bits, r.Flags, want.value, want.flags)
	}
	if !ziv.Real(want.f, want.x, want.y) {
		t.Errorf("Real(%d, %x, %x) = false", want.f, want.x, want.y)
	}
}

// refusedRound: that error, and nothing beside it.
func refusedRound(t *testing.T, f api.Func, x, y uint64, stage int, want api.Errno) {
	t.Helper()
	if r, why := ziv.Round(f, x, y, stage); why != want || r != (api.Result{}) {
		t.Errorf("Round(%d, %x, %x, %d) = %x, flags %d, error %d, want %d", f, x, y, stage, r.Bits, r.Flags, why, want)
	}
}

func refusedEnclose(t *testing.T, f api.Func, x, y uint64, p int, want api.Errno) {
	t.Helper()
	if v, why := ziv.Enclose(f, x, y, p); why != want || !reflect.DeepEqual(v, api.Ival{}) {
		t.Errorf("Enclose(%d, %x, %x, %d) = %v, error %d, want %d", f, x, y, p, v, why, want)
	}
}

// noValue: there is no real value, and nothing is told of one.
func noValue(t *testing.T, f api.Func, x, y uint64) {
	t.Helper()
	if ziv.Real(f, x, y) {
		t.Errorf("Real(%d, %x, %x) = true", f, x, y)
	}
	for stage := range 3 {
		refusedRound(t, f, x, y, stage, api.ErrWhole)
	}
	for _, p := range []int{api.MinBits, 64, api.MaxBits} {
		if isAlgebraic(f) {
			refusedEnclose(t, f, x, y, p, api.ErrRange)
		} else {
			refusedEnclose(t, f, x, y, p, api.ErrWhole)
		}
	}
}

// 25.1, 25.2, 25.3: every number of a function, and numbers of none.
func TestIs(t *testing.T) {
	list := append([]uint64{0, word(minusZero), word(1), word(-1), word(0.5), word(greatest)}, notFinite...)
	for n := range 256 {
		f := api.Func(n)
		want := f >= api.FuncExp && f <= api.FuncHypot
		if ziv.Is(f) != want {
			t.Errorf("Is(%d) = %v", f, !want)
		}
		if ziv.Two(f) != isTwo(f) {
			t.Errorf("Two(%d) = %v", f, ziv.Two(f))
		}
		for i, x := range list {
			y := list[(i*5+1)%len(list)]
			if want {
				continue
			}
			if ziv.Real(f, x, y) {
				t.Errorf("Real(%d, %x, %x) = true", f, x, y)
			}
			for _, n := range []int{0, 1, 2, 3, api.MinBits, 64, api.MaxBits} {
				refusedRound(t, f, x, y, n, api.ErrRange)
				refusedEnclose(t, f, x, y, n, api.ErrRange)
			}
		}
	}
}

// 25.3: stages that there are not, at arguments with a value and without one.
func TestWrongStages(t *testing.T) {
	for _, f := range all() {
		for _, x := range append([]uint64{0, word(minusZero), word(0.5), word(1), word(-2.5), word(greatest)}, notFinite...) {
			for _, stage := range wrongStages {
				refusedRound(t, f, x, word(1), stage, api.ErrRange)
				refusedRound(t, f, x, notFinite[0], stage, api.ErrRange)
			}
		}
	}
}

// 25.2: numbers of bits that none may ask for, ahead of all that is said of arguments.
func TestWrongBits(t *testing.T) {
	for _, f := range all() {
		for _, x := range append([]uint64{0, word(minusZero), word(0.5), word(1), word(-2.5), word(greatest)}, notFinite...) {
			for _, p := range wrongBits {
				refusedEnclose(t, f, x, word(1), p, api.ErrRange)
				refusedEnclose(t, f, x, notFinite[0], p, api.ErrRange)
			}
			for _, p := range []int{api.MinBits, 64, api.MaxBits} {
				if isAlgebraic(f) {
					refusedEnclose(t, f, x, word(1), p, api.ErrRange)
				}
			}
		}
	}
}

// 25.1, 25.2, 25.3: infinities and what is no number, in each place.
func TestNotFinite(t *testing.T) {
	for _, f := range all() {
		for _, x := range notFinite {
			for _, y := range append([]uint64{0, word(minusZero), word(1), word(-1), word(greatest), word(least)}, notFinite...) {
				noValue(t, f, x, y)
				if isTwo(f) {
					noValue(t, f, y, x)
				}
			}
		}
	}
}

// 25.1, 25.2, 25.3: y of a function of one argument is not looked at.
func TestOneArgument(t *testing.T) {
	for _, f := range all() {
		if isTwo(f) {
			continue
		}
		for _, x := range []uint64{0, word(minusZero), word(0.3), word(1), word(-2.5), word(1.5), word(greatest), notFinite[0]} {
			r, why := ziv.Round(f, x, 0, 0)
			v, whyNot := ziv.Enclose(f, x, 0, 64)
			for _, y := range append([]uint64{word(minusZero), 1, word(1), word(-3.7), word(-greatest)}, notFinite...) {
				if other, no := ziv.Round(f, x, y, 0); other != r || no != why {
					t.Errorf("Round(%d, %x, %x, 0) = %x, error %d, with 0 %x, error %d", f, x, y, other.Bits, no, r.Bits, why)
				}
				if other, no := ziv.Enclose(f, x, y, 64); no != whyNot || !reflect.DeepEqual(other, v) {
					t.Errorf("Enclose(%d, %x, %x, 64) is not that with 0", f, x, y)
				}
				if ziv.Real(f, x, y) != (why == api.OK) {
					t.Errorf("Real(%d, %x, %x) = %v", f, x, y, why != api.OK)
				}
			}
		}
	}
}

// 25.1, 25.2, 25.3: where there is a value, and where there is none.
func TestReal(t *testing.T) {
	list := append(sides(), others(25, 30)...)
	for _, f := range all() {
		for _, a := range arguments(f, list) {
			x, y := word(a[0]), word(a[1])
			if !hasValue(f, a[0], a[1]) {
				noValue(t, f, x, y)
				continue
			}
			if !ziv.Real(f, x, y) {
				t.Errorf("Real(%d, %g, %g) = false", f, a[0], a[1])
			}
			if _, why := ziv.Round(f, x, y, 0); why != api.OK {
				t.Errorf("Round(%d, %g, %g, 0): error %d", f, a[0], a[1], why)
			}
		}
	}
}

// 25.1, 25.3: where domains end, one by one.
func TestEndsOfDomains(t *testing.T) {
	for _, c := range []struct {
		list    []api.Func
		in, out []float64
	}{
		{[]api.Func{api.FuncLog, api.FuncLog2, api.FuncLog10, api.FuncRsqrt}, []float64{least, greatest}, []float64{0, minusZero, -least, -1, -greatest}},
		{[]api.Func{api.FuncLog1p, api.FuncLog2p1, api.FuncLog10p1}, []float64{up(-1), minusZero, greatest}, []float64{-1, down(-1), -greatest}},
		{[]api.Func{api.FuncAsin, api.FuncAcos, api.FuncAsinpi, api.FuncAcospi}, []float64{1, -1, down(1), up(-1), 0, minusZero}, []float64{up(1), down(-1), 2, -2, greatest, -greatest}},
		{[]api.Func{api.FuncAcosh}, []float64{1, up(1), greatest}, []float64{down(1), 0, minusZero, -1, -greatest}},
		{[]api.Func{api.FuncAtanh}, []float64{down(1), up(-1), 0, minusZero}, []float64{1, -1, up(1), down(-1), greatest}},
		{[]api.Func{api.FuncTanpi}, []float64{up(0.5), down(0.5), 1, 1 << 53, greatest, 1<<52 - 1}, []float64{0.5, -0.5, 1.5, -2.5, 1<<52 - 0.5}},
		{[]api.Func{api.FuncCbrt, api.FuncExp, api.FuncSin, api.FuncAtan, api.FuncSinh}, []float64{0, minusZero, greatest, -greatest, least, -least}, nil},
	} {
		for _, f := range c.list {
			for _, x := range c.in {
				if !ziv.Real(f, word(x), notFinite[0]) {
					t.Errorf("Real(%d, %g, inf) = false", f, x)
				}
			}
			for _, x := range c.out {
				noValue(t, f, word(x), word(1))
			}
		}
	}
}

// 25.1, 25.3: two arguments: zeros, either sign of them, and numbers below 0.
func TestEndsOfDomainsOfTwo(t *testing.T) {
	zeros := []float64{0, minusZero}
	for _, x := range zeros {
		for _, y := range zeros {
			noValue(t, api.FuncAtan2, word(x), word(y))
			noValue(t, api.FuncAtan2pi, word(x), word(y))
			is(t, api.FuncHypot, x, y, 0, 0)
		}
		for _, y := range []float64{0, minusZero, 1, -1, 2.5, -2.5, least, greatest} {
			noValue(t, api.FuncPow, word(x), word(y))
		}
		for _, y := range []float64{least, -least, 1, -greatest} {
			for _, f := range []api.Func{api.FuncAtan2, api.FuncAtan2pi, api.FuncHypot} {
				if !ziv.Real(f, word(x), word(y)) || !ziv.Real(f, word(y), word(x)) {
					t.Errorf("Real(%d, %g, %g) = false, or turned round", f, x, y)
				}
			}
		}
	}
	for _, x := range []float64{-1, -2, -least, -greatest, -0.3} {
		for _, y := range []float64{0.5, -0.5, up(1), down(1), least, 1<<52 - 0.5, -1.0 / 3} {
			noValue(t, api.FuncPow, word(x), word(y))
		}
		for _, y := range []float64{0, minusZero, 1, -1, 2, -3, 1<<53 - 1, greatest, -greatest} {
			if !ziv.Real(api.FuncPow, word(x), word(y)) {
				t.Errorf("Real(FuncPow, %g, %g) = false", x, y)
			}
		}
	}
}

// ofFamily is the enclosure that the function's family answers.
func ofFamily(f api.Func, x, y uint64, p int) (api.Ival, api.Errno) {
	switch {
	case expfam.Is(f):
		return expfam.Enclose(f, x, p)
	case logfam.Is(f):
		return logfam.Enclose(f, x, p)
	case trig.Is(f):
		return trig.Enclose(f, x, p)
	case trigpi.Is(f):
		return trigpi.Enclose(f, x, p)
	case invtrig.Is(f):
		return invtrig.Enclose(f, x, p)
	case invtrig.Is2(f):
		return invtrig.Enclose2(f, x, y, p)
	case f == api.FuncPow:
		return power.Enclose2(f, x, y, p)
	default:
		return hyper.Enclose(f, x, p)
	}
}

// 25.2: what the family answers, ErrMany too; to the fewest and the most bits.
func TestEnclose(t *testing.T) {
	list := append(sides(), others(26, 10)...)
	many := 0
	for _, f := range all() {
		if isAlgebraic(f) {
			continue
		}
		for i, a := range arguments(f, list) {
			x, y := word(a[0]), word(a[1])
			p := []int{api.MinBits, 53, 64, 200}[i%4]
			if i%97 == 0 {
				p = api.MaxBits
			}
			v, why := ziv.Enclose(f, x, y, p)
			w, whyToo := ofFamily(f, x, y, p)
			if why != whyToo || !reflect.DeepEqual(v, w) {
				t.Errorf("Enclose(%d, %g, %g, %d) = %v, error %d, but the family's is %v, error %d", f, a[0], a[1], p, v, why, w, whyToo)
			}
			if why == api.OK && (ival.Check(v) != api.OK || !ival.Narrow(v, p)) {
				t.Errorf("Enclose(%d, %g, %g, %d) is not so narrow", f, a[0], a[1], p)
			}
			if why == api.ErrMany {
				many++
			}
		}
	}
	if many < 50 {
		t.Error("few are too great or too small:", many)
	}
}

// 25.2: of FuncAtan2 and FuncAtan2pi the first argument is the point's ordinate.
func TestEncloseOrdinateFirst(t *testing.T) {
	for _, f := range []api.Func{api.FuncAtan2, api.FuncAtan2pi} {
		v, why := ziv.Enclose(f, word(1), word(greatest), 64)
		w, whyToo := ziv.Enclose(f, word(greatest), word(1), 64)
		if why != api.OK || whyToo != api.OK || ival.Meets(v, w) {
			t.Fatalf("function %d: errors %d, %d", f, why, whyToo)
		}
		r := rounded(t, f, word(1), word(greatest))
		if bits.Less(word(0x1p-1000), r.Bits) {
			t.Errorf("function %d of 1 and the greatest number is %x", f, r.Bits)
		}
	}
}

// The chapter's examples.
func TestExamples(t *testing.T) {
	isWord(t, row{api.FuncExp, 0x3ff0000000000000, 0, 0x4005bf0a8b145769, api.Inexact})
	isWord(t, row{api.FuncExp, 0x40862e42fefa39f0, 0, word(infinity), api.Overflow | api.Inexact})
	isWord(t, row{api.FuncExp2, 0x4008000000000000, 0, word(8), 0})
	refusedRound(t, api.FuncLog, 0, 0, 0, api.ErrWhole)
	refusedRound(t, api.FuncExp, 0, 0, 3, api.ErrRange)
}
