package alg_test

import (
	"math"
	"math/big"
	"slices"
	"testing"

	"ulp/alg"
	"ulp/api"
	"ulp/probe"
)

const (
	minusZero uint64 = 1 << 63
	greatest  uint64 = 0x7fefffffffffffff
	leastNorm uint64 = 0x0010000000000000
	infinity  uint64 = 0x7ff0000000000000
	one       uint64 = 0x3ff0000000000000
	two       uint64 = 0x4000000000000000
)

// notFinite are the infinities, and what is no number: quiet and signalling, of either sign.
var notFinite = []uint64{infinity, infinity | minusZero, 0x7ff8000000000000, 0xfff8000000000000, 0x7ff0000000000001, 0xfff0000000000001, 0x7fffffffffffffff, math.MaxUint64, 0x7ff4000000000000, 0xfff7ffffffffffff}

// amounts are binary64 numbers above 0: edges, subnormal ones, squares, cubes and powers of 2 with their neighbours, and some without a pattern.
func amounts() []uint64 {
	list := []uint64{1, 2, 3, 4, 5, 8, 9, 27, 0x0008000000000000, leastNorm - 1, leastNorm, leastNorm + 1, one - 1, one, one + 1, greatest - 1, greatest}
	for n := range 60 {
		list = append(list, uint64(1)<<(n%52), uint64(1)<<(n%52)+1)
		whole := float64(n*n*1001 + 3*n + 1)
		for _, p := range []float64{whole, whole * whole, whole * whole * whole} {
			x := floatBits(p)
			list = append(list, x-1, x, x+1)
		}
	}
	for e := -1022; e < 1024; e += 11 {
		x := floatBits(math.Ldexp(1, e))
		list = append(list, x, x+1, x|0x000fffffffffffff)
	}
	s := probe.Source(21)
	for range 200 {
		list = append(list, floatBits(math.Abs(s.Float(s.Below(2046)-1022))), floatBits(math.Abs(s.Float(s.Below(8)-4))), s.Word()%leastNorm|1)
	}
	slices.Sort(list)
	return slices.Compact(list)
}

// besideMiddles are numbers whose root lies next to a point of change: the nearest ones to a power of such a point, with their neighbours.
func besideMiddles(power func(float64) float64) []uint64 {
	var list []uint64
	s := probe.Source(4)
	for range 300 {
		f := math.Abs(s.Float(s.Below(600) - 300))
		half := (math.Nextafter(f, math.Inf(1)) - f) / 2
		x := floatBits(power(f) + (power(f+2*half)-power(f))/2)
		list = append(list, x-1, x, x+1)
	}
	for i := range uint64(60) { // next to 1, square roots and what they divide lie nearer to such points than anywhere else
		list = append(list, one+i, one-i, two+i, two-i)
	}
	return list
}

// besideSquares are numbers whose square root lies as near a point of change as any: the square of a whole number of 54 bits is less than 2^9 more, or less, than a number of 53 bits times a power of 2.
func besideSquares() []uint64 {
	var list []uint64
	for c := int64(-511); c < 512; c += 8 {
		root := uint64(1) // its square is c, but for multiples of 2^n
		for n := 3; n < 55; n++ {
			if (root*root-uint64(c))>>n&1 == 1 {
				root += 1 << (n - 1)
			}
		}
		for i := range uint64(4) {
			middle := new(big.Int).SetUint64((root*(1-i%2*2) + i/2<<53) % (1 << 54))
			square := new(big.Int).Mul(middle, middle)
			square.Sub(square, big.NewInt(c))
			x, _ := new(big.Float).SetInt(square).Float64()
			if exact, _ := big.NewFloat(x).Int(nil); middle.BitLen() == 54 && exact.Cmp(square) == 0 {
				list = append(list, floatBits(x), floatBits(math.Ldexp(x, -150)), floatBits(math.Ldexp(x, -1000)), floatBits(math.Ldexp(x, 900)))
			}
		}
	}
	return list
}

// 21.1: there are such numbers on either side.
func TestBesideSquares(t *testing.T) {
	var sides [3]int
	for _, x := range besideSquares() {
		down := floatBits(math.Sqrt(math.Float64frombits(x)))
		if squareRoot(x)(units(down)) > 0 {
			down--
		}
		sides[1+squareRoot(x)(middle(down))]++
	}
	if sides[0] < 50 || sides[1] != 0 || sides[2] < 50 {
		t.Error("roots above, at and below points of change:", sides)
	}
}

// 21.1
func TestIs(t *testing.T) {
	for n := range 256 {
		f := api.Func(n)
		if want := f == api.FuncCbrt || f == api.FuncRsqrt; alg.Is(f) != want {
			t.Errorf("Is(%d) = %v", f, !want)
		}
		if want := f == api.FuncHypot; alg.Is2(f) != want {
			t.Errorf("Is2(%d) = %v", f, !want)
		}
	}
}

// 21.1: of either sign.
func TestCbrt(t *testing.T) {
	cube := func(x float64) float64 { return x * x * x }
	for _, x := range slices.Concat(amounts(), besideMiddles(cube), besideSquares()) {
		want := nearest(cubeRoot(x))
		same(t, "Cbrt", alg.Cbrt, x, want)
		same(t, "Cbrt", alg.Cbrt, x|minusZero, below(want))
	}
}

// 21.1
func TestSqrt(t *testing.T) {
	square := func(x float64) float64 { return x * x }
	for _, x := range slices.Concat(amounts(), besideMiddles(square), besideSquares()) {
		same(t, "Sqrt", alg.Sqrt, x, nearest(squareRoot(x)))
	}
}

// 21.1
func TestRsqrt(t *testing.T) {
	inverse := func(x float64) float64 { return 1 / (x * x) }
	for _, x := range slices.Concat(amounts(), besideMiddles(inverse), besideSquares()) {
		same(t, "Rsqrt", alg.Rsqrt, x, nearest(inverseRoot(x)))
	}
}

// 21.1: a zero is its own root; there is no other one that is divided by.
func TestZeros(t *testing.T) {
	for _, zero := range []uint64{0, minusZero} {
		same(t, "Cbrt", alg.Cbrt, zero, api.Result{Bits: zero})
		same(t, "Sqrt", alg.Sqrt, zero, api.Result{Bits: zero})
		refused(t, "Rsqrt", alg.Rsqrt, zero, api.ErrWhole)
	}
}

// 21.1: infinities, what is no number, and of roots of even degree all below 0.
func TestOutside(t *testing.T) {
	for _, x := range notFinite {
		refused(t, "Cbrt", alg.Cbrt, x, api.ErrWhole)
		refused(t, "Sqrt", alg.Sqrt, x, api.ErrWhole)
		refused(t, "Rsqrt", alg.Rsqrt, x, api.ErrWhole)
	}
	for _, x := range amounts() {
		refused(t, "Sqrt", alg.Sqrt, x|minusZero, api.ErrWhole)
		refused(t, "Rsqrt", alg.Rsqrt, x|minusZero, api.ErrWhole)
	}
}

// sides are numbers from 0 on that are put together to points.
func sides() []uint64 {
	return []uint64{0, 1, 2, 3, 4, 5, 12, 0x0007ffffffffffff, 0x000fffffffffffff, leastNorm, leastNorm + 1, 0x1ff0000000000001, 0x3c90000000000000, 0x3ca0000000000001, 0x3e40000000000003, one - 1, one, one + 1, 0x4008000000000000, 0x4010000000000000, 0x4330000000000001, 0x7fd0000000000000, 0x7fe0000000000000, 0x7fe6a09e667f3bcc, 0x7fe6a09e667f3bcd, greatest - 1, greatest}
}

// 21.2
func TestHypot(t *testing.T) {
	for i, x := range sides() {
		for _, y := range sides()[i:] {
			checkHypot(t, x, y)
		}
	}
	s := probe.Source(22)
	for range 200 {
		x := math.Abs(s.Float(s.Below(2000) - 1000))
		checkHypot(t, floatBits(x), floatBits(math.Abs(s.Float(s.Below(2046)-1022))))
		y := math.Abs(s.Float(s.Below(8) - 4))
		checkHypot(t, floatBits(x), floatBits(math.Ldexp(y*x, -s.Below(40))))
		checkHypot(t, s.Word()%leastNorm, s.Word()%leastNorm>>s.Below(52))
	}
}

// 21.2: beside a great number a small one is not lost: it tells on which side of a point of change the distance lies, and that it is inexact.
func TestHypotLittle(t *testing.T) {
	for _, x := range []uint64{one, one + 1, one - 1, 0x4330000000000001, leastNorm + 1, 0x0010000000000003, 1 << 51, greatest} {
		f := math.Float64frombits(x)
		for _, y := range []uint64{1, leastNorm, floatBits(f * 0x1p-80), floatBits(f * 0x1p-28), floatBits(f * 0x1p-27), floatBits(f * 0x1p-26)} {
			for i := range uint64(3) {
				checkHypot(t, x, y+i)
			}
		}
		if r, why := alg.Hypot(x, 1); why != api.OK || r.Flags&api.Inexact == 0 {
			t.Errorf("Hypot(%x, 2^-1074) = %x, error %d, want Inexact", x, r, why)
		}
	}
}

// 21.2: the distance may lie just at a point of change: then it goes to the even one.
func TestHypotMiddle(t *testing.T) {
	s := probe.Source(23)
	ties := 0
	for ties < 100 {
		// Of n^2 - m^2, 2 n m and n^2 + m^2 the last one has 54 bits, and is odd: the others have at most 53, or are even.
		n, m := 1<<26+s.Word()%(1<<25), s.Word()%(1<<26)
		long := n*n + m*m
		if long%2 == 0 || long < 1<<53 || long >= 1<<54 || n*n-m*m >= 1<<53 {
			continue
		}
		ties++
		x, y := floatBits(float64(n*n-m*m)), floatBits(float64(2*n*m))
		if r, why := alg.Hypot(x, y); why != api.OK || r != (api.Result{Bits: floatBits(float64(long)), Flags: api.Inexact}) {
			t.Errorf("Hypot(%x, %x) = %x, error %d, want %x", x, y, r, why, floatBits(float64(long)))
		}
		checkHypot(t, x, y)
	}
}

// 21.2: just below and just at the point from which on the distance is too great.
func TestHypotTooGreat(t *testing.T) {
	great := api.Result{Bits: infinity, Flags: api.Overflow | api.Inexact}
	for _, c := range []struct {
		x, y uint64
		want api.Result
	}{
		{greatest, 0, api.Result{Bits: greatest}},
		{greatest, 1, api.Result{Bits: greatest, Flags: api.Inexact}},
		{greatest, greatest, great},
		{0x7fe6a09e667f3bcc, 0x7fe6a09e667f3bcc, api.Result{Bits: greatest, Flags: api.Inexact}},
		{0x7fe6a09e667f3bcd, 0x7fe6a09e667f3bcd, great},
		{greatest, 0x7e46a09e667f3bcc, api.Result{Bits: greatest, Flags: api.Inexact}},
		{greatest, 0x7e46a09e667f3bcd, great},
	} {
		checkHypot(t, c.x, c.y)
		if r, why := alg.Hypot(c.x, c.y); why != api.OK || r != c.want {
			t.Errorf("Hypot(%x, %x) = %x, error %d, want %x", c.x, c.y, r, why, c.want)
		}
	}
}

// 21.2: of subnormal numbers; of a distance that is tiny and not exact Underflow is told, just below the least normal number too.
func TestHypotTiny(t *testing.T) {
	under := api.Underflow | api.Inexact
	for _, c := range []struct {
		x, y uint64
		want api.Result
	}{
		{0, 0, api.Result{}},
		{1, 0, api.Result{Bits: 1}},
		{1, 1, api.Result{Bits: 1, Flags: under}},
		{1, 2, api.Result{Bits: 2, Flags: under}},
		{2, 3, api.Result{Bits: 4, Flags: under}},
		{3, 4, api.Result{Bits: 5}},
		{leastNorm - 1, 1, api.Result{Bits: leastNorm - 1, Flags: under}},
		{leastNorm, 1, api.Result{Bits: leastNorm, Flags: api.Inexact}},
		{leastNorm - 1, 1<<26 - 1, api.Result{Bits: leastNorm - 1, Flags: under}},                // less than half way
		{leastNorm - 1, 1 << 26, api.Result{Bits: leastNorm, Flags: under}},                      // more than half way, not yet 3/4
		{leastNorm - 1, 0x4e62385, api.Result{Bits: leastNorm, Flags: under}},                    // the last one that is
		{leastNorm - 1, 0x4e62386, api.Result{Bits: leastNorm, Flags: api.Inexact}},              // beyond 3/4: rounded to 53 bits it is no more tiny
		{leastNorm - 1, leastNorm - 1, api.Result{Bits: 0x0016a09e667f3bcb, Flags: api.Inexact}}, // both subnormal, the distance is not
	} {
		checkHypot(t, c.x, c.y)
		if r, why := alg.Hypot(c.x, c.y); why != api.OK || r != c.want {
			t.Errorf("Hypot(%x, %x) = %x, error %d, want %x", c.x, c.y, r, why, c.want)
		}
	}
}

// 21.2: of two zeros +0, whatever their signs.
func TestHypotZeros(t *testing.T) {
	for _, x := range []uint64{0, minusZero} {
		for _, y := range []uint64{0, minusZero} {
			if r, why := alg.Hypot(x, y); why != api.OK || r != (api.Result{}) {
				t.Errorf("Hypot(%x, %x) = %x, error %d", x, y, r, why)
			}
		}
	}
}

// 21.2
func TestHypotOutside(t *testing.T) {
	for _, x := range notFinite {
		for _, y := range slices.Concat(notFinite, []uint64{0, minusZero, 1, one, greatest, greatest | minusZero}) {
			refused(t, "Hypot (first)", func(x uint64) (api.Result, api.Errno) { return alg.Hypot(x, y) }, x, api.ErrWhole)
			refused(t, "Hypot (second)", func(x uint64) (api.Result, api.Errno) { return alg.Hypot(y, x) }, x, api.ErrWhole)
		}
	}
}

// Whatever word is handed in, there is an answer: an error alone, or a number with no exceptions but those of rounding.
func TestAnything(t *testing.T) {
	s := probe.Source(24)
	sound := func(r api.Result, why api.Errno) bool {
		return why == api.OK && r.Flags&^(api.Inexact|api.Overflow|api.Underflow) == 0 || why == api.ErrWhole && r == (api.Result{})
	}
	for range 3000 {
		x, y := s.Word(), s.Word()
		for _, f := range []call{alg.Cbrt, alg.Sqrt, alg.Rsqrt} {
			if r, why := f(x); !sound(r, why) {
				t.Errorf("of %x: %x, error %d", x, r, why)
			}
		}
		if r, why := alg.Hypot(x, y); !sound(r, why) {
			t.Errorf("Hypot(%x, %x) = %x, error %d", x, y, r, why)
		}
	}
}

// The chapter's examples.
func TestExamples(t *testing.T) {
	same(t, "Cbrt", alg.Cbrt, 0x4020000000000000, api.Result{Bits: two})
	same(t, "Cbrt", alg.Cbrt, 0xc03b000000000000, api.Result{Bits: 0xc008000000000000})
	same(t, "Rsqrt", alg.Rsqrt, 0x4010000000000000, api.Result{Bits: 0x3fe0000000000000})
	same(t, "Rsqrt", alg.Rsqrt, 1, api.Result{Bits: 0x6180000000000000})
	same(t, "Sqrt", alg.Sqrt, two, api.Result{Bits: 0x3ff6a09e667f3bcd, Flags: api.Inexact})
	if r, why := alg.Hypot(0x4008000000000000, 0x4010000000000000); why != api.OK || r != (api.Result{Bits: 0x4014000000000000}) {
		t.Errorf("Hypot(3, 4) = %x, error %d", r, why)
	}
	if r, why := alg.Hypot(greatest, greatest); why != api.OK || r != (api.Result{Bits: infinity, Flags: api.Overflow | api.Inexact}) {
		t.Errorf("Hypot of the greatest number twice = %x, error %d", r, why)
	}
}
