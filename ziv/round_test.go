package ziv_test

import (
	"math"
	"testing"

	"ulp/api"
	"ulp/round"
	"ulp/ziv"
)

const (
	over  = api.Overflow | api.Inexact
	under = api.Underflow | api.Inexact
)

// 25.3: values that were reckoned elsewhere, at each stage.
func TestKnown(t *testing.T) {
	seen := map[api.Func]int{}
	for _, r := range known {
		isWord(t, r)
		seen[r.f]++
	}
	for _, f := range all() {
		if seen[f] < 8 {
			t.Errorf("of function %d only %d are known", f, seen[f])
		}
	}
}

// 25.3, 25.6: values near a point of change; of some of them the first stage's enclosure decides nothing.
func TestHard(t *testing.T) {
	open := 0
	for _, r := range hard {
		isWord(t, r)
		v, _ := ziv.Enclose(r.f, r.x, r.y, 64)
		if _, known, _ := round.Decide(v); !known {
			open++
		}
	}
	if open < 8 {
		t.Error("few are open with 64 bits:", open)
	}
}

// 25.3: angles whose slope lies halfway between two subnormal numbers: they are less, by so little that MaxBits bits mostly do not tell. (The slope itself would go to the even number.)
func TestHalfwaySlopes(t *testing.T) {
	for _, odd := range []uint64{1, 3, 5, 7, 9, 1<<20 - 1, 1<<32 + 1, 1<<52 - 1, 1<<52 + 1, 1<<53 - 3, 1<<53 - 1} {
		for _, factor := range []uint64{1, 3, 7, 1<<20 + 1} {
			if odd > (1<<53)/factor {
				continue
			}
			for _, exp := range []int{1, 2, 60, 75, 500, 990} {
				y, x := math.Ldexp(float64(odd*factor), exp-1075), math.Ldexp(float64(factor), exp)
				below, above := math.Float64frombits(odd/2), math.Float64frombits(odd/2+1)
				is(t, api.FuncAtan2, y, x, below, under)
				is(t, api.FuncAtan2, -y, x, -below, under)
				if exp < 60 || odd == 1<<53-1 {
					continue
				}
				is(t, api.FuncAtan2, down(y), x, below, under)
				is(t, api.FuncAtan2, up(y), x, above, under)
				is(t, api.FuncAtan2, -up(y), x, -above, under)
			}
		}
	}
}

// exactCase is one whose value is told, rounded.
type exactCase struct {
	f          api.Func
	x, y, want float64
	flags      api.Flags
}

// exactCases are some of all kinds, those that are no binary64 too.
var exactCases = []exactCase{
	{api.FuncExp, 0, 0, 1, 0}, {api.FuncExp2, 0, 0, 1, 0}, {api.FuncExp10, 0, 0, 1, 0}, {api.FuncCos, 0, 0, 1, 0}, {api.FuncCospi, 0, 0, 1, 0}, {api.FuncCosh, 0, 0, 1, 0}, {api.FuncAcospi, 0, 0, 0.5, 0},
	{api.FuncExp2, 10, 0, 1024, 0}, {api.FuncExp2, -1, 0, 0.5, 0}, {api.FuncExp2, 1023, 0, 0x1p1023, 0}, {api.FuncExp2, -1022, 0, leastNorm, 0}, {api.FuncExp2, -1074, 0, least, 0},
	{api.FuncExp2, 1024, 0, math.Inf(1), over}, {api.FuncExp2, 16384, 0, math.Inf(1), over}, {api.FuncExp2, -1075, 0, 0, under}, {api.FuncExp2, -16384, 0, 0, under},
	{api.FuncExp2m1, 1, 0, 1, 0}, {api.FuncExp2m1, -1, 0, -0.5, 0}, {api.FuncExp2m1, 53, 0, 0x1p53 - 1, 0}, {api.FuncExp2m1, -53, 0, 0x1p-53 - 1, 0},
	{api.FuncExp2m1, 54, 0, 0x1p54, api.Inexact}, {api.FuncExp2m1, -54, 0, -1, api.Inexact}, // of 54 bits: halfway
	{api.FuncExp10, 1, 0, 10, 0}, {api.FuncExp10, 22, 0, 1e22, 0}, {api.FuncExp10, 23, 0, 1e23, api.Inexact}, // of 54 bits
	{api.FuncExp10m1, 1, 0, 9, 0}, {api.FuncExp10m1, 15, 0, 1e15 - 1, 0}, {api.FuncExp10m1, 16, 0, 1e16, api.Inexact}, // of 54 bits
	{api.FuncLog2, 1024, 0, 10, 0}, {api.FuncLog2, 0.125, 0, -3, 0}, {api.FuncLog2, least, 0, -1074, 0}, {api.FuncLog2, 0x1p1023, 0, 1023, 0},
	{api.FuncLog10, 10, 0, 1, 0}, {api.FuncLog10, 1000, 0, 3, 0}, {api.FuncLog10, 1e22, 0, 22, 0},
	{api.FuncLog2p1, 1, 0, 1, 0}, {api.FuncLog2p1, -0.5, 0, -1, 0}, {api.FuncLog2p1, 0x1p53 - 1, 0, 53, 0}, {api.FuncLog2p1, 0x1p-53 - 1, 0, -53, 0},
	{api.FuncLog10p1, 9, 0, 1, 0}, {api.FuncLog10p1, 1e15 - 1, 0, 15, 0},
	{api.FuncSinpi, 0.5, 0, 1, 0}, {api.FuncSinpi, 1.5, 0, -1, 0}, {api.FuncSinpi, -0.5, 0, -1, 0}, {api.FuncSinpi, 1<<52 - 0.5, 0, -1, 0},
	{api.FuncCospi, 1, 0, -1, 0}, {api.FuncCospi, -2, 0, 1, 0}, {api.FuncCospi, 1<<53 - 1, 0, -1, 0}, {api.FuncCospi, greatest, 0, 1, 0},
	{api.FuncTanpi, 0.25, 0, 1, 0}, {api.FuncTanpi, -0.25, 0, -1, 0}, {api.FuncTanpi, 0.75, 0, -1, 0}, {api.FuncTanpi, 1<<51 - 0.25, 0, -1, 0},
	{api.FuncAsinpi, 1, 0, 0.5, 0}, {api.FuncAsinpi, -1, 0, -0.5, 0}, {api.FuncAcospi, -1, 0, 1, 0}, {api.FuncAtanpi, 1, 0, 0.25, 0}, {api.FuncAtanpi, -1, 0, -0.25, 0},
	{api.FuncCbrt, 8, 0, 2, 0}, {api.FuncCbrt, -27, 0, -3, 0}, {api.FuncRsqrt, 4, 0, 0.5, 0}, {api.FuncRsqrt, least, 0, 0x1p537, 0},
	{api.FuncHypot, 3, 4, 5, 0}, {api.FuncHypot, -5, 12, 13, 0}, {api.FuncHypot, 0, -least, least, 0}, {api.FuncHypot, greatest, 0, greatest, 0},
	{api.FuncAtan2pi, 1, 1, 0.25, 0}, {api.FuncAtan2pi, 1, -1, 0.75, 0}, {api.FuncAtan2pi, -least, least, -0.25, 0}, {api.FuncAtan2pi, -1, -1, -0.75, 0}, {api.FuncAtan2pi, 7, 0, 0.5, 0}, {api.FuncAtan2pi, -7, 0, -0.5, 0}, {api.FuncAtan2pi, 0, -greatest, 1, 0},
	{api.FuncPow, 3, 4, 81, 0}, {api.FuncPow, 4, -0.5, 0.5, 0}, {api.FuncPow, -2, 3, -8, 0}, {api.FuncPow, 1, greatest, 1, 0}, {api.FuncPow, -1, greatest, 1, 0}, {api.FuncPow, -1, 1<<53 - 1, -1, 0}, {api.FuncPow, 2.5, 0, 1, 0}, {api.FuncPow, -2.5, 0, 1, 0},
	{api.FuncPow, 81, 0.25, 3, 0}, {api.FuncPow, least, 0.5, 0x1p-537, 0}, {api.FuncPow, 2, 1023, 0x1p1023, 0}, {api.FuncPow, 2, -1074, least, 0}, {api.FuncPow, greatest, 1, greatest, 0}, {api.FuncPow, least, 1, least, 0},
	{api.FuncPow, 3, 34, 16677181699666568, api.Inexact}, {api.FuncPow, 94906267, 2, 9007199515875288, api.Inexact}, // of 54 bits: halfway, to the even one
	{api.FuncPow, 10, 23, 1e23, api.Inexact}, {api.FuncPow, 1 + 0x1p-52, 2, 1 + 0x1p-51, api.Inexact}, {api.FuncPow, 10, 40, 1e40, api.Inexact},
	{api.FuncPow, 2, 1024, math.Inf(1), over}, {api.FuncPow, -2, 1025, math.Inf(-1), over}, {api.FuncPow, 2, 20000, math.Inf(1), over}, {api.FuncPow, 2, 40000, math.Inf(1), over}, {api.FuncPow, 2, -1075, 0, under}, {api.FuncPow, 2, -40000, 0, under},
	{api.FuncPow, 0x1.8p-537, 2, 2 * least, under}, {api.FuncPow, 3 * 0x1p-215, 5, 122 * least, under}, // 2.25 and 121.5 units
}

// 25.3, 25.5: exact cases.
func TestExact(t *testing.T) {
	for _, c := range exactCases {
		is(t, c.f, c.x, c.y, c.want, c.flags)
	}
	is(t, api.FuncPow, -2, -1075, minusZero, under) // a value below 0 that is told, but too small
	is(t, api.FuncPow, -2, -1076, 0, under)
}

// 25.5: next to exact cases nothing is exact.
func TestBesideExact(t *testing.T) {
	for _, c := range []struct {
		f    api.Func
		list []float64
	}{
		{api.FuncExp2, []float64{1, 10, -1, 1023, -1022, -1074}},
		{api.FuncExp2m1, []float64{1, -1, 10, 53, 54, -53}},
		{api.FuncExp10, []float64{1, 2, 15, 22, 23, 24}},
		{api.FuncExp10m1, []float64{1, 2, 15, 16, 17}},
		{api.FuncLog, []float64{1}},
		{api.FuncLog2, []float64{1, 2, 0.125, 1024, leastNorm, 0x1p1023}},
		{api.FuncLog10, []float64{1, 10, 1000, 1e22, 1e23}},
		{api.FuncLog2p1, []float64{1, -0.5, 3, 0x1p52 - 1}},
		{api.FuncLog10p1, []float64{9, 99, 1e15 - 1, 1e16}},
		{api.FuncSinpi, []float64{0.5, 1, 1.5, -0.5, 1e6}},
		{api.FuncCospi, []float64{0.5, 1, 1.5, -0.5, 1e6}},
		{api.FuncTanpi, []float64{0.25, 0.75, 1, -0.25, 1e6}},
		{api.FuncAsinpi, []float64{0.5}},
		{api.FuncAtanpi, []float64{1, -1}},
		{api.FuncCbrt, []float64{8, -27, 0.125, 1e6}},
		{api.FuncRsqrt, []float64{4, 16, 0.25}},
		{api.FuncAcosh, []float64{2}},
	} {
		for _, x := range c.list {
			for _, x := range []float64{up(x), down(x)} {
				if !hasValue(c.f, x, 0) {
					continue
				}
				if r := rounded(t, c.f, word(x), 0); r.Flags&api.Inexact == 0 {
					t.Errorf("Round(%d, %g) = %x, flags %d", c.f, x, r.Bits, r.Flags)
				}
			}
		}
	}
	for _, c := range [][2]float64{{3, up(4)}, {3, down(4)}, {up(3), 4}, {4, up(-0.5)}, {2, up(10)}, {10, 23}, {10, -1}, {3, 34}, {3, 35}, {up(1), 3}, {0.5, down(1)}, {5, -2}, {2, 0.5}, {8, 1.0 / 3}} {
		if r := rounded(t, api.FuncPow, word(c[0]), word(c[1])); r.Flags != api.Inexact {
			t.Errorf("Round(FuncPow, %g, %g) = %x, flags %d", c[0], c[1], r.Bits, r.Flags)
		}
	}
	for _, f := range []api.Func{api.FuncAtan2, api.FuncAtan2pi, api.FuncHypot} {
		for _, c := range [][2]float64{{1, up(1)}, {1, down(1)}, {up(1), -1}, {3, up(4)}, {least, -1}, {1, least}} {
			if r := rounded(t, f, word(c[0]), word(c[1])); r.Flags != api.Inexact {
				t.Errorf("Round(%d, %g, %g) = %x, flags %d", f, c[0], c[1], r.Bits, r.Flags)
			}
		}
	}
}

// 25.3: the zero of an exact case is +0, whatever the argument's sign.
func TestZeros(t *testing.T) {
	for _, f := range []api.Func{api.FuncExpm1, api.FuncExp2m1, api.FuncExp10m1, api.FuncLog1p, api.FuncLog2p1, api.FuncLog10p1, api.FuncSin, api.FuncTan, api.FuncSinpi, api.FuncTanpi, api.FuncAsin, api.FuncAtan, api.FuncAsinpi, api.FuncAtanpi, api.FuncSinh, api.FuncTanh, api.FuncAsinh, api.FuncAtanh, api.FuncCbrt} {
		is(t, f, 0, 0, 0, 0)
		is(t, f, minusZero, 0, 0, 0)
	}
	for _, f := range []api.Func{api.FuncLog, api.FuncLog2, api.FuncLog10, api.FuncAcos, api.FuncAcospi, api.FuncAcosh} {
		is(t, f, 1, 0, 0, 0)
	}
	for _, x := range []float64{1, -1, 2, -7, 1e22, -greatest, 1 << 52} {
		is(t, api.FuncSinpi, x, 0, 0, 0)
		is(t, api.FuncTanpi, x, 0, 0, 0)
	}
	for _, x := range []float64{0.5, -0.5, 1.5, -2.5, 1<<52 - 0.5} {
		is(t, api.FuncCospi, x, 0, 0, 0)
	}
	for _, f := range []api.Func{api.FuncAtan2, api.FuncAtan2pi} {
		for _, x := range []float64{least, 1, greatest} {
			is(t, f, 0, x, 0, 0)
			is(t, f, minusZero, x, 0, 0)
		}
	}
}

// 25.3: zeros are 0, whatever their sign, where the value is another one, too.
func TestSignsOfZeros(t *testing.T) {
	for _, zero := range []float64{0, minusZero} {
		is(t, api.FuncAcos, zero, 0, math.Pi/2, api.Inexact)
		is(t, api.FuncAcospi, zero, 0, 0.5, 0)
		is(t, api.FuncExp, zero, 0, 1, 0)
		is(t, api.FuncCosh, zero, 0, 1, 0)
		is(t, api.FuncAtan2, zero, -3, math.Pi, api.Inexact)
		is(t, api.FuncAtan2, 3, zero, math.Pi/2, api.Inexact)
		is(t, api.FuncAtan2, -3, zero, -math.Pi/2, api.Inexact)
		is(t, api.FuncAtan2pi, zero, -3, 1, 0)
		is(t, api.FuncHypot, zero, -3, 3, 0)
		is(t, api.FuncPow, -3, zero, 1, 0)
	}
}

// 25.3: the last values that are not too great, and the next ones; what lies beyond all enclosures.
func TestTooGreat(t *testing.T) {
	for _, r := range []row{
		{api.FuncExp, 0x40862e42fefa39ef, 0, 0x7fefffffffffff2a, 0}, {api.FuncExp2, 0x408fffffffffffff, 0, 0x7feffffffffffd3a, 0}, {api.FuncExp10, 0x40734413509f79fe, 0, 0x7feffffffffffba1, 0},
		{api.FuncExpm1, 0x40862e42fefa39ef, 0, 0x7fefffffffffff2a, 0}, {api.FuncExp2m1, 0x408fffffffffffff, 0, 0x7feffffffffffd3a, 0}, {api.FuncExp10m1, 0x40734413509f79fe, 0, 0x7feffffffffffba1, 0},
		{api.FuncSinh, 0x408633ce8fb9f87d, 0, 0x7feffffffffffd3b, 0}, {api.FuncCosh, 0x408633ce8fb9f87d, 0, 0x7feffffffffffd3b, 0},
	} {
		r.flags = api.Inexact
		isWord(t, r)
		isWord(t, row{r.f, r.x + 1, 0, word(infinity), over})
		for _, x := range []float64{1100, 4800, up(4800), 10999, 11000, up(11000), 16000, up(16000), 16384, 16385, 1e10, 0x1p1023, greatest} {
			isWord(t, row{r.f, word(x), 0, word(infinity), over})
		}
	}
	isWord(t, row{api.FuncSinh, 0xc08633ce8fb9f87d, 0, 0xffeffffffffffd3b, api.Inexact})
	isWord(t, row{api.FuncCosh, 0xc08633ce8fb9f87d, 0, 0x7feffffffffffd3b, api.Inexact})
	for _, x := range []float64{711, 11000, up(11000), 1e10, greatest} {
		is(t, api.FuncSinh, -x, 0, -infinity, over)
		is(t, api.FuncCosh, -x, 0, infinity, over)
	}
	is(t, api.FuncHypot, greatest, greatest, infinity, over)
	is(t, api.FuncHypot, greatest, 0x1p998, infinity, over)
	is(t, api.FuncHypot, greatest, 0x1p997, greatest, api.Inexact)
}

// 25.3: the same of powers, of either sign.
func TestTooGreatPowers(t *testing.T) {
	for _, r := range []row{
		{api.FuncPow, word(10), 0x40734413509f79fe, 0x7feffffffffffba1, 0}, {api.FuncPow, word(3), 0x408430939835353d, 0x7fefffffffffff49, 0},
		{api.FuncPow, word(1.5), 0x409b5a288307f4a3, 0x7fefffffffffff7f, 0}, {api.FuncPow, word(0.1), 0xc0734413509f79ff, 0x7fefffffffffffa1, 0},
	} {
		r.flags = api.Inexact
		isWord(t, r)
		isWord(t, row{r.f, r.x, r.y + 1, word(infinity), over})
	}
	for _, y := range []float64{10000, 12000, 13000, 15000, 15001, 40000, 1e10, greatest} {
		is(t, api.FuncPow, 3, y, infinity, over)
		is(t, api.FuncPow, 1.0/3, -y, infinity, over)
		is(t, api.FuncPow, -3, y+1, infinity*sign(y+1), over)
		is(t, api.FuncPow, 1.0/3, y, 0, under)
		is(t, api.FuncPow, 3, -y, 0, under)
		is(t, api.FuncPow, -3, -y-1, math.Copysign(0, sign(y+1)), under)
	}
	for _, y := range []float64{709, 20001, 1<<53 - 1} {
		is(t, api.FuncPow, -3, y, -infinity, over)
		is(t, api.FuncPow, -3, -y, minusZero, under)
	}
	is(t, api.FuncPow, -3, 710, infinity, over)
	is(t, api.FuncPow, -3, -710, 0, under)
	is(t, api.FuncPow, greatest, greatest, infinity, over)
	is(t, api.FuncPow, least, greatest, 0, under)
	is(t, api.FuncPow, least, -greatest, infinity, over)
	is(t, api.FuncPow, up(1), greatest, infinity, over)
	is(t, api.FuncPow, down(1), greatest, 0, under)
}

// sign is that of a power of a number below 0 to a whole number.
func sign(n float64) float64 {
	if math.Mod(n, 2) == 0 {
		return 1
	}
	return -1
}

// 25.3: the last values that are not too small, or not tiny, and the next ones; what lies beyond all enclosures.
func TestTooSmall(t *testing.T) {
	for _, r := range []row{
		{api.FuncExp, 0xc0874910d52d3051, 0, 1, under}, {api.FuncExp, 0xc0874910d52d3052, 0, 0, under}, {api.FuncExp, 0xc086232bdd7abcd2, 0, 0x001000000000007c, api.Inexact}, {api.FuncExp, 0xc086232bdd7abcd3, 0, 0x000ffffffffffe7c, under},
		{api.FuncExp2, 0xc090cbffffffffff, 0, 1, under}, {api.FuncExp2, 0xc090cc0000000000, 0, 0, under}, {api.FuncExp2, 0xc090cc0000000001, 0, 0, under}, {api.FuncExp2, 0xc08ff00000000001, 0, 0x000ffffffffffe9d, under},
		{api.FuncExp10, 0xc07439b746e36b52, 0, 1, under}, {api.FuncExp10, 0xc07439b746e36b53, 0, 0, under}, {api.FuncExp10, 0xc0733a7146f72a41, 0, 0x0010000000000231, api.Inexact}, {api.FuncExp10, 0xc0733a7146f72a42, 0, 0x000fffffffffffe3, under},
		{api.FuncPow, word(10), 0xc07439b746e36b52, 1, under}, {api.FuncPow, word(10), 0xc07439b746e36b53, 0, under}, {api.FuncPow, word(3), 0xc08531fef209dba3, 1, under}, {api.FuncPow, word(3), 0xc08531fef209dba4, 0, under},
		{api.FuncExp2m1, 0x00171547652b82fd, 0, 0x000fffffffffffff, under}, {api.FuncExp2m1, 0x00171547652b82fe, 0, 0x0010000000000000, api.Inexact},
		{api.FuncLog10p1, 0x00226bb1bbb55515, 0, 0x0010000000000000, under}, {api.FuncLog10p1, 0x00226bb1bbb55516, 0, 0x0010000000000000, api.Inexact}, // the first one is tiny ahead of rounding
		{api.FuncAsinpi, 0x002921fb54442d17, 0, 0x000fffffffffffff, under}, {api.FuncAsinpi, 0x002921fb54442d18, 0, 0x0010000000000000, api.Inexact},
		{api.FuncAtanpi, 1, 0, 0, under}, {api.FuncAtanpi, 2, 0, 1, under}, {api.FuncAtanpi, 0x8000000000000001, 0, word(minusZero), under}, {api.FuncLog10p1, 0x8000000000000001, 0, word(minusZero), under},
	} {
		isWord(t, r)
	}
	for _, x := range []float64{1100, 4800, up(4800), 11000, up(11000), 16000, up(16000), 16384, 16385, 1e10, greatest} {
		for _, f := range []api.Func{api.FuncExp, api.FuncExp2, api.FuncExp10} {
			is(t, f, -x, 0, 0, under)
		}
		for _, f := range []api.Func{api.FuncExpm1, api.FuncExp2m1, api.FuncExp10m1, api.FuncTanh} {
			is(t, f, -x, 0, -1, api.Inexact)
		}
		is(t, api.FuncTanh, x, 0, 1, api.Inexact)
	}
	for _, f := range []api.Func{api.FuncAtan2, api.FuncAtan2pi} {
		is(t, f, least, greatest, 0, under)
		is(t, f, -least, greatest, minusZero, under)
	}
	is(t, api.FuncAtan2, 1, 0x1p1023, 0x1p-1023, under)
	is(t, api.FuncAtan2, 1, 0x1p1022, leastNorm, api.Inexact)
}

// 25.3, 25.5: tiny arguments of functions that are nearly the argument: it is told, Inexact, and tiny if it is subnormal.
func TestNearlyTheArgument(t *testing.T) {
	for _, f := range []api.Func{api.FuncSin, api.FuncTan, api.FuncAsin, api.FuncAtan, api.FuncSinh, api.FuncTanh, api.FuncAsinh, api.FuncAtanh, api.FuncExpm1, api.FuncLog1p} {
		for _, x := range []float64{least, 2 * least, 3 * least, 0x1p-1040, down(leastNorm), leastNorm, up(leastNorm), 0x1p-1000, 1e-300, 0x1p-500, 1e-100, 0x1p-60, up(0x1p-60), 0x1p-55} {
			flags := api.Flags(api.Inexact)
			if x < leastNorm {
				flags = under
			}
			is(t, f, x, 0, x, flags)
			is(t, f, -x, 0, -x, flags)
		}
	}
}

// 25.3, 25.5: tiny arguments of functions that are nearly 1, or another number; great ones of functions that have a bound.
func TestNearlyConstant(t *testing.T) {
	for _, x := range []float64{least, 3 * least, leastNorm, 1e-300, 0x1p-500, 0x1p-70} {
		for _, x := range []float64{x, -x} {
			for _, f := range []api.Func{api.FuncExp, api.FuncExp2, api.FuncExp10, api.FuncCos, api.FuncCospi, api.FuncCosh} {
				is(t, f, x, 0, 1, api.Inexact)
			}
			is(t, api.FuncAcos, x, 0, math.Pi/2, api.Inexact)
			is(t, api.FuncAcospi, x, 0, 0.5, api.Inexact)
			is(t, api.FuncPow, 3, x, 1, api.Inexact)
			is(t, api.FuncPow, greatest, x, 1, api.Inexact)
			is(t, api.FuncAtan2, 1, x, math.Pi/2, api.Inexact)
			is(t, api.FuncAtan2pi, 1, x, 0.5, api.Inexact)
			is(t, api.FuncAtan2, x, -1, math.Copysign(math.Pi, x), api.Inexact)
			is(t, api.FuncAtan2pi, x, -1, math.Copysign(1, x), api.Inexact)
			is(t, api.FuncHypot, x, 1, 1, api.Inexact)
		}
	}
	for _, x := range []float64{1e20, 1e100, 0x1p1023, greatest} {
		for _, sign := range []float64{1, -1} {
			is(t, api.FuncTanh, sign*x, 0, sign, api.Inexact)
			is(t, api.FuncAtan, sign*x, 0, sign*math.Pi/2, api.Inexact)
			is(t, api.FuncAtanpi, sign*x, 0, sign/2, api.Inexact)
		}
	}
	is(t, api.FuncPow, up(1), 0x1p-500, 1, api.Inexact)
	is(t, api.FuncPow, down(1), least, 1, api.Inexact)
}
