package exact_test

import (
	"math"
	"math/big"
	"reflect"
	"slices"
	"testing"

	"ulp/api"
	"ulp/dyad"
	"ulp/exact"
	"ulp/probe"
)

// all are the functions of one argument; two those of a point.
var (
	all = []api.Func{
		api.FuncExp, api.FuncExp2, api.FuncExp10, api.FuncExpm1, api.FuncExp2m1, api.FuncExp10m1,
		api.FuncLog, api.FuncLog2, api.FuncLog10, api.FuncLog1p, api.FuncLog2p1, api.FuncLog10p1,
		api.FuncSin, api.FuncCos, api.FuncTan, api.FuncSinpi, api.FuncCospi, api.FuncTanpi,
		api.FuncAsin, api.FuncAcos, api.FuncAtan, api.FuncAsinpi, api.FuncAcospi, api.FuncAtanpi,
		api.FuncSinh, api.FuncCosh, api.FuncTanh, api.FuncAsinh, api.FuncAcosh, api.FuncAtanh,
	}
	two = []api.Func{api.FuncAtan2, api.FuncAtan2pi}
)

const (
	greatest = math.MaxFloat64
	least    = math.SmallestNonzeroFloat64
)

var (
	minusZero = math.Copysign(0, -1)
	infinity  = math.Inf(1)
)

// notFinite are the infinities, and what is no number: quiet and signalling, of either sign.
var notFinite = []uint64{word(infinity), word(-infinity), 0x7ff8000000000000, 0xfff8000000000000, 0x7ff0000000000001, 0xfff0000000000001, 0x7fffffffffffffff, math.MaxUint64, 0x7ff4000000000000, 0xfff7ffffffffffff}

func word(x float64) uint64 { return math.Float64bits(x) }

func up(x float64) float64 { return math.Nextafter(x, infinity) }

func down(x float64) float64 { return math.Nextafter(x, -infinity) }

// ratio is a dyadic number as the tests reckon with it.
func ratio(d api.Dyad) *big.Rat {
	n := new(big.Int)
	for _, w := range slices.Backward(d.Abs) {
		n.Lsh(n, 64).Or(n, new(big.Int).SetUint64(w))
	}
	if d.Neg {
		n.Neg(n)
	}
	return new(big.Rat).Mul(new(big.Rat).SetInt(n), power(2, d.Exp))
}

// power is a whole number to the power of another one.
func power(base int64, n int) *big.Rat {
	amount := new(big.Rat).SetInt(new(big.Int).Exp(big.NewInt(base), big.NewInt(int64(max(n, -n))), nil))
	if n < 0 {
		return amount.Inv(amount)
	}
	return amount
}

func lessOne(x *big.Rat) *big.Rat { return new(big.Rat).Sub(x, big.NewRat(1, 1)) }

func whole(n int) *big.Rat { return big.NewRat(int64(n), 1) }

// isForm tells whether a number is right, and in its one form.
func isForm(d api.Dyad) bool {
	form, why := dyad.Canon(d)
	return why == api.OK && reflect.DeepEqual(form, d)
}

// check holds an answer against a value; nil: none is to be told.
func check(t *testing.T, what string, f api.Func, y, x float64, d api.Dyad, is bool, why api.Errno, want *big.Rat) {
	t.Helper()
	switch {
	case why != api.OK || is != (want != nil):
		t.Errorf("%s(%d, %g, %g) = %v, %v, error %d", what, f, y, x, d, is, why)
	case !is && !reflect.DeepEqual(d, api.Dyad{}):
		t.Errorf("%s(%d, %g, %g) = false beside %v", what, f, y, x, d)
	case is && (!isForm(d) || ratio(d).Cmp(want) != 0):
		t.Errorf("%s(%d, %g, %g) = %v, want %v", what, f, y, x, d, want)
	}
}

// known: that is told.
func known(t *testing.T, f api.Func, x float64, want *big.Rat) {
	t.Helper()
	d, is, why := exact.Exact(f, word(x))
	check(t, "Exact", f, 0, x, d, is, why, want)
	if !exact.Domain(f, word(x)) {
		t.Errorf("Domain(%d, %g) = false", f, x)
	}
}

// unknown: there is a value, but none is told.
func unknown(t *testing.T, f api.Func, list ...float64) {
	t.Helper()
	for _, x := range list {
		known(t, f, x, nil)
	}
}

func known2(t *testing.T, f api.Func, y, x float64, want *big.Rat) {
	t.Helper()
	d, is, why := exact.Exact2(f, word(y), word(x))
	check(t, "Exact2", f, y, x, d, is, why, want)
}

// refused: that error, and nothing beside it.
func refused(t *testing.T, f api.Func, x uint64, want api.Errno) {
	t.Helper()
	if d, is, why := exact.Exact(f, x); why != want || is || !reflect.DeepEqual(d, api.Dyad{}) {
		t.Errorf("Exact(%d, %x) = %v, %v, error %d, want %d", f, x, d, is, why, want)
	}
	if exact.Domain(f, x) {
		t.Errorf("Domain(%d, %x) = true", f, x)
	}
}

func refused2(t *testing.T, f api.Func, y, x uint64, want api.Errno) {
	t.Helper()
	if d, is, why := exact.Exact2(f, y, x); why != want || is || !reflect.DeepEqual(d, api.Dyad{}) {
		t.Errorf("Exact2(%d, %x, %x) = %v, %v, error %d, want %d", f, y, x, d, is, why, want)
	}
}

// 23.1, 23.2: every number of a function, and numbers of none.
func TestIs(t *testing.T) {
	list := append([]uint64{0, word(minusZero), word(1), word(-1), word(0.5), word(greatest)}, notFinite...)
	for n := range 256 {
		f := api.Func(n)
		if want := slices.Contains(all, f); exact.Is(f) != want {
			t.Errorf("Is(%d) = %v", f, !want)
		}
		if want := slices.Contains(two, f); exact.Is2(f) != want {
			t.Errorf("Is2(%d) = %v", f, !want)
		}
		for _, x := range list {
			if !slices.Contains(all, f) {
				refused(t, f, x, api.ErrRange)
			}
			for _, y := range list {
				if !slices.Contains(two, f) {
					refused2(t, f, y, x, api.ErrRange)
				}
			}
		}
	}
}

// 23.1, 23.2: infinities, and what is no number.
func TestNotFinite(t *testing.T) {
	for _, x := range notFinite {
		for _, f := range all {
			refused(t, f, x, api.ErrWhole)
		}
		for _, f := range two {
			for _, y := range append([]uint64{0, word(minusZero), word(1), word(-1), word(greatest)}, notFinite...) {
				refused2(t, f, y, x, api.ErrWhole)
				refused2(t, f, x, y, api.ErrWhole)
			}
		}
	}
}

// hasValue tells whether a function has a real value at a finite number.
func hasValue(f api.Func, x float64) bool {
	switch f {
	case api.FuncLog, api.FuncLog2, api.FuncLog10:
		return x > 0
	case api.FuncLog1p, api.FuncLog2p1, api.FuncLog10p1:
		return x > -1
	case api.FuncTanpi:
		return math.Mod(math.Abs(x), 1) != 0.5
	case api.FuncAsin, api.FuncAcos, api.FuncAsinpi, api.FuncAcospi:
		return x >= -1 && x <= 1
	case api.FuncAcosh:
		return x >= 1
	case api.FuncAtanh:
		return x > -1 && x < 1
	default:
		return true
	}
}

// edges are numbers at which domains end and cases lie, with their neighbours, of either sign, and some without a pattern.
func edges() []float64 {
	list := []float64{0, minusZero}
	for _, x := range []float64{least, 0x1p-1022, 0x1p-60, 0.125, 0.25, 0.375, 0.5, 0.75, 1, 1.25, 1.5, 1.75, 2, 2.5, 3, 3.5, 4, 5, 7, 9, 10, 16, 22, 23, 24, 53, 54, 55, 99, 100, 999, 1e10, 1e15, 1e16, 1e22, 1e23, 1<<51 - 0.5, 1<<52 - 0.5, 1 << 52, 1<<53 - 1, 1 << 53, 1 << 14, 1<<14 + 1, 1e300} {
		list = append(list, x, up(x), down(x), -x, -up(x), -down(x))
	}
	list = append(list, greatest, -greatest)
	s := probe.Source(23)
	for range 200 {
		list = append(list, s.Float(s.Below(2046)-1022), s.Float(s.Below(20)-10))
	}
	return list
}

// 23.1, 23.2
func TestDomain(t *testing.T) {
	for _, f := range all {
		for _, x := range edges() {
			if !hasValue(f, x) {
				refused(t, f, word(x), api.ErrWhole)
				continue
			}
			if _, _, why := exact.Exact(f, word(x)); why != api.OK || !exact.Domain(f, word(x)) {
				t.Errorf("function %d at %g: error %d, Domain %v", f, x, why, exact.Domain(f, word(x)))
			}
		}
	}
}

// 23.1, 23.2: where domains end, one by one.
func TestEndsOfDomains(t *testing.T) {
	for _, f := range []api.Func{api.FuncLog, api.FuncLog2, api.FuncLog10} {
		for _, x := range []float64{0, minusZero, -least, -1, -greatest} {
			refused(t, f, word(x), api.ErrWhole)
		}
	}
	for _, f := range []api.Func{api.FuncLog1p, api.FuncLog2p1, api.FuncLog10p1} {
		for _, x := range []float64{-1, down(-1), -2, -greatest} {
			refused(t, f, word(x), api.ErrWhole)
		}
	}
	for _, f := range []api.Func{api.FuncAsin, api.FuncAcos, api.FuncAsinpi, api.FuncAcospi} {
		for _, x := range []float64{up(1), down(-1), 2, -2, greatest, -greatest} {
			refused(t, f, word(x), api.ErrWhole)
		}
		unknown(t, f, down(1), up(-1))
	}
	for _, x := range []float64{down(1), 0.5, least, 0, minusZero, -1, -2, -greatest} {
		refused(t, api.FuncAcosh, word(x), api.ErrWhole)
	}
	for _, x := range []float64{1, -1, up(1), down(-1), 2, greatest, -greatest} {
		refused(t, api.FuncAtanh, word(x), api.ErrWhole)
	}
	for _, x := range []float64{0.5, 1.5, 2.5, 3.5, 1e10 + 0.5, 1<<52 - 0.5} {
		refused(t, api.FuncTanpi, word(x), api.ErrWhole)
		refused(t, api.FuncTanpi, word(-x), api.ErrWhole)
	}
	unknown(t, api.FuncLog, least, down(1), up(1), greatest)
	unknown(t, api.FuncLog1p, up(-1), least, -least)
	unknown(t, api.FuncAcosh, up(1), greatest)
	unknown(t, api.FuncAtanh, down(1), up(-1))
	unknown(t, api.FuncTanpi, down(0.5), up(0.5), -down(0.5), -up(0.5))
}

// 23.2: the cases at 0, of either sign.
func TestAtZero(t *testing.T) {
	for _, f := range all {
		want := whole(0)
		switch f {
		case api.FuncExp, api.FuncExp2, api.FuncExp10, api.FuncCos, api.FuncCospi, api.FuncCosh:
			want = whole(1)
		case api.FuncAcospi:
			want = big.NewRat(1, 2)
		case api.FuncAcos:
			want = nil
		case api.FuncLog, api.FuncLog2, api.FuncLog10, api.FuncAcosh:
			continue
		}
		known(t, f, 0, want)
		known(t, f, minusZero, want)
	}
}

// 23.2: the functions that have a case at 0 alone have none next to it, nor far from it.
func TestNoOthers(t *testing.T) {
	for _, f := range []api.Func{api.FuncExp, api.FuncExpm1, api.FuncLog1p, api.FuncSin, api.FuncCos, api.FuncTan, api.FuncAsin, api.FuncAtan, api.FuncSinh, api.FuncCosh, api.FuncTanh, api.FuncAsinh, api.FuncAtanh} {
		for _, x := range edges() {
			if x != 0 && hasValue(f, x) {
				unknown(t, f, x)
			}
		}
	}
	for _, f := range []api.Func{api.FuncLog, api.FuncAcos, api.FuncAcosh} {
		for _, x := range edges() {
			if x != 1 && hasValue(f, x) {
				unknown(t, f, x)
			}
		}
	}
	for _, f := range []api.Func{api.FuncAsinpi, api.FuncAcospi, api.FuncAtanpi} {
		for _, x := range edges() {
			if x != 0 && math.Abs(x) != 1 && hasValue(f, x) {
				unknown(t, f, x)
			}
		}
	}
}

// 23.2: the cases at 1 and -1.
func TestAtOne(t *testing.T) {
	for _, f := range []api.Func{api.FuncLog, api.FuncLog2, api.FuncLog10, api.FuncAcos, api.FuncAcospi, api.FuncAcosh} {
		known(t, f, 1, whole(0))
	}
	known(t, api.FuncAsinpi, 1, big.NewRat(1, 2))
	known(t, api.FuncAsinpi, -1, big.NewRat(-1, 2))
	known(t, api.FuncAcospi, -1, whole(1))
	known(t, api.FuncAtanpi, 1, big.NewRat(1, 4))
	known(t, api.FuncAtanpi, -1, big.NewRat(-1, 4))
	unknown(t, api.FuncAcos, -1)
	unknown(t, api.FuncAsin, 1, -1)
	unknown(t, api.FuncAtan, 1, -1)
	unknown(t, api.FuncExp, 1, -1)
	for _, f := range []api.Func{api.FuncAsinpi, api.FuncAcospi, api.FuncAtanpi} {
		unknown(t, f, down(1), up(-1), 0.5, -0.5)
	}
	unknown(t, api.FuncAtanpi, up(1), down(-1), greatest, -greatest)
}

// 23.2
func TestPowersOfTwo(t *testing.T) {
	const most = 1 << 14
	for n := -most; n <= most; n++ {
		if n%97 == 0 || max(n, -n) < 1100 || max(n, -n) > most-5 {
			known(t, api.FuncExp2, float64(n), power(2, n))
		}
	}
	unknown(t, api.FuncExp2, most+1, -most-1, 1<<15, -1<<15, 1<<16, 0x1p62, 0x1p63, 0x1p64, -0x1p64, greatest, -greatest)
	unknown(t, api.FuncExp2, up(most), down(most), down(-most), up(-most), 0.5, -0.5, 1.5, up(3), down(3), least, -least)
	for n := -54; n <= 54; n++ {
		known(t, api.FuncExp2m1, float64(n), lessOne(power(2, n)))
		unknown(t, api.FuncExp2m1, float64(n)+0.5, float64(n)+0.25)
	}
	unknown(t, api.FuncExp2m1, 55, -55, 56, -56, 64, -64, up(54), down(-54), up(-54), down(54), 1024, -1024, 0x1p64, -0x1p64, greatest, -greatest, least, -least)
}

// 23.2
func TestPowersOfTen(t *testing.T) {
	for n := 0; n <= 23; n++ {
		known(t, api.FuncExp10, float64(n), power(10, n))
		unknown(t, api.FuncExp10, float64(n)+0.5, up(float64(n)), -float64(n+1))
	}
	unknown(t, api.FuncExp10, 24, 25, 26, 27, 28, 100, -1, -2, -23, greatest, -greatest, down(23), up(23), 0x1p64)
	for n := 0; n <= 16; n++ {
		known(t, api.FuncExp10m1, float64(n), lessOne(power(10, n)))
		unknown(t, api.FuncExp10m1, float64(n)+0.5, up(float64(n)), -float64(n+1))
	}
	unknown(t, api.FuncExp10m1, 17, 18, 23, -1, -2, -16, greatest, -greatest, up(16), down(16), 0x1p64)
}

// 23.2
func TestLogarithmsToTwo(t *testing.T) {
	for n := -1074; n <= 1023; n++ {
		x := math.Ldexp(1, n)
		known(t, api.FuncLog2, x, whole(n))
		if n > -1074 { // the least number has no neighbour above 0
			unknown(t, api.FuncLog2, up(x))
		}
		if n > -1073 { // below that its neighbour is a power too
			unknown(t, api.FuncLog2, down(x))
		}
		if n > -1073 && n < 1023 {
			unknown(t, api.FuncLog2, 3*x)
		}
	}
	unknown(t, api.FuncLog2, 0x3p-1074, greatest, 10, 1000)
	for n := -53; n <= 53; n++ {
		x, _ := lessOne(power(2, n)).Float64()
		known(t, api.FuncLog2p1, x, whole(n))
		if n > -52 { // the two next to -1 are neighbours
			unknown(t, api.FuncLog2p1, up(x), down(x))
		}
	}
	unknown(t, api.FuncLog2p1, -1+0x3p-53, least, -least, 2, 5, -0.25, 1<<54, 1<<53, 1<<52, 0x1p60, 0x1p1023, greatest)
	if x := -1 + 0x1p-53; up(-1) != x {
		t.Error("the neighbour of -1 is another one:", x)
	}
}

// 23.2
func TestLogarithmsToTen(t *testing.T) {
	for n := range 23 {
		x, is := power(10, n).Float64()
		if !is {
			t.Fatal("10 to the power of", n)
		}
		known(t, api.FuncLog10, x, whole(n))
		unknown(t, api.FuncLog10, up(x), down(x), 2*x, 5*x)
	}
	near, _ := power(10, 23).Float64()
	unknown(t, api.FuncLog10, near, up(near), down(near), 1e24, 1e25, 1e100, 1e300, 0.1, 0.01, 1e-5, 0.5, 2, 5, least, greatest)
	for n := range 25 {
		x, is := lessOne(power(10, n)).Float64()
		switch {
		case is != (n <= 15):
			t.Error("10 to the power of", n, "less 1")
		case is:
			known(t, api.FuncLog10p1, x, whole(n))
		default: // 1 more than the next number is no power
			unknown(t, api.FuncLog10p1, x)
		}
		unknown(t, api.FuncLog10p1, up(x))
		if n > 0 {
			unknown(t, api.FuncLog10p1, down(x), x+1)
		}
	}
	unknown(t, api.FuncLog10p1, -0.9, -0.99, -0.5, least, -least, 1, greatest, down(1e16), up(1e16))
}

// quarters tells what sine, cosine and tangent of a whole number of quarters of half a turn are; nil of what is not dyadic, and of the tangents that there are none of.
func quarters(n int) (sine, cosine, tangent *big.Rat) {
	switch ((n % 8) + 8) % 8 {
	case 0:
		return whole(0), whole(1), whole(0)
	case 1, 5:
		return nil, nil, whole(1)
	case 2:
		return whole(1), whole(0), nil
	case 4:
		return whole(0), whole(-1), whole(0)
	case 6:
		return whole(-1), whole(0), nil
	default:
		return nil, nil, whole(-1)
	}
}

// checkQuarters holds sine, cosine and tangent of n / 4 half turns against what they should be.
func checkQuarters(t *testing.T, n int) {
	t.Helper()
	x := float64(n) / 4
	sine, cosine, tangent := quarters(n)
	known(t, api.FuncSinpi, x, sine)
	known(t, api.FuncCospi, x, cosine)
	if n%4 == 2 || n%4 == -2 {
		refused(t, api.FuncTanpi, word(x), api.ErrWhole)
		return
	}
	known(t, api.FuncTanpi, x, tangent)
}

// 23.2: whole numbers, halves and quarters, of either sign, up to where there are none any more.
func TestHalfTurns(t *testing.T) {
	for n := -80; n <= 80; n++ {
		checkQuarters(t, n)
	}
	for _, far := range []int{1 << 20, 1 << 40, 1<<53 - 20} {
		for n := far - 9; n <= far+9; n++ {
			checkQuarters(t, n)
			checkQuarters(t, -n)
		}
	}
	for _, c := range []struct {
		x    float64
		sine int // of a half; the cosine of a whole number
	}{{1<<52 - 0.5, -1}, {1<<52 - 1.5, 1}, {1<<51 - 0.5, -1}, {1 << 52, 1}, {1<<52 + 1, -1}, {1<<53 - 1, -1}, {1 << 53, 1}, {1<<53 + 2, 1}, {1e22, 1}, {greatest, 1}} {
		for _, sign := range []int{1, -1} {
			x := math.Copysign(c.x, float64(sign))
			if x != math.Trunc(x) {
				known(t, api.FuncSinpi, x, whole(sign*c.sine))
				known(t, api.FuncCospi, x, whole(0))
				refused(t, api.FuncTanpi, word(x), api.ErrWhole)
				continue
			}
			known(t, api.FuncSinpi, x, whole(0))
			known(t, api.FuncCospi, x, whole(c.sine))
			known(t, api.FuncTanpi, x, whole(0))
		}
	}
	for _, x := range []float64{least, 0x1p-1022, 0x1p-60, 0.125, 0.375, 1.0 / 3, 1.0 / 6, 0.1, up(0.25), down(0.25), up(0.5), down(0.5), up(1), down(1), up(1.25), 1e6 + 0.125, 1<<50 - 0.125} {
		for _, f := range []api.Func{api.FuncSinpi, api.FuncCospi, api.FuncTanpi} {
			unknown(t, f, x, -x)
		}
	}
}

// 23.2: points on the axes, halfway between, and beside them; zeros are 0, whatever their sign.
func TestPoints(t *testing.T) {
	for _, a := range []float64{least, 3 * least, 0x1p-1022, 0.1, 1, 3, 1e300, greatest} {
		for _, zero := range []float64{0, minusZero} {
			known2(t, api.FuncAtan2, zero, a, whole(0))
			known2(t, api.FuncAtan2, zero, -a, nil)
			known2(t, api.FuncAtan2, a, zero, nil)
			known2(t, api.FuncAtan2, -a, zero, nil)
			known2(t, api.FuncAtan2pi, zero, a, whole(0))
			known2(t, api.FuncAtan2pi, zero, -a, whole(1))
			known2(t, api.FuncAtan2pi, a, zero, big.NewRat(1, 2))
			known2(t, api.FuncAtan2pi, -a, zero, big.NewRat(-1, 2))
		}
		known2(t, api.FuncAtan2pi, a, a, big.NewRat(1, 4))
		known2(t, api.FuncAtan2pi, a, -a, big.NewRat(3, 4))
		known2(t, api.FuncAtan2pi, -a, a, big.NewRat(-1, 4))
		known2(t, api.FuncAtan2pi, -a, -a, big.NewRat(-3, 4))
		for _, y := range []float64{a, -a} {
			for _, x := range []float64{a, -a} {
				known2(t, api.FuncAtan2, y, x, nil)
				for _, f := range two {
					known2(t, f, y, math.Nextafter(x, 0), besideOf(f, y, math.Nextafter(x, 0)))
					known2(t, f, math.Nextafter(y, 0), x, besideOf(f, math.Nextafter(y, 0), x))
				}
			}
		}
	}
	for _, f := range two {
		for _, y := range []float64{0, minusZero} {
			for _, x := range []float64{0, minusZero} {
				refused2(t, f, word(y), word(x), api.ErrWhole)
			}
		}
		for _, y := range []float64{1, -1} {
			for _, x := range []float64{2, -2, 0.5, -0.5, math.Sqrt(3), greatest, least} {
				known2(t, f, y, x, nil)
			}
		}
	}
}

// besideOf is what is told of a point that lies next to where x and y are of one amount: nothing, unless it lies on an axis.
func besideOf(f api.Func, y, x float64) *big.Rat {
	switch {
	case f == api.FuncAtan2pi && x == 0:
		return big.NewRat(int64(math.Copysign(1, y)), 2)
	case y == 0 && x > 0:
		return whole(0)
	case f == api.FuncAtan2pi && y == 0:
		return whole(1)
	default:
		return nil
	}
}

// The chapter's examples.
func TestExamples(t *testing.T) {
	known(t, api.FuncExp10, 23, power(10, 23))
	unknown(t, api.FuncExp10, 24)
	known(t, api.FuncLog10, 1000, whole(3))
	known(t, api.FuncTanpi, 0.25, whole(1))
	refused(t, api.FuncTanpi, word(0.5), api.ErrWhole)
	known(t, api.FuncSinpi, 4, whole(0))
	known2(t, api.FuncAtan2pi, 1, -1, big.NewRat(3, 4))
}
