package eft_test

import (
	"math"
	"math/big"
	"slices"
	"testing"

	"ulp/eft"
	"ulp/probe"
)

// wide is enough bits for sums and products of all floats of these tests without a rounding.
const wide = 4500

func exactly(x float64) *big.Float { return new(big.Float).SetPrec(wide).SetFloat64(x) }

// total is the exact sum of floats.
func total(l ...float64) *big.Float {
	sum := exactly(0)
	for _, x := range l {
		sum.Add(sum, exactly(x))
	}
	return sum
}

// plus, minus and times are binary64's own: the exact value, rounded once.
func plus(a, b float64) float64 { return rounded(total(a, b)) }

func minus(a, b float64) float64 { return plus(a, -b) }

func times(a, b float64) float64 { return rounded(exactly(0).Mul(exactly(a), exactly(b))) }

func rounded(v *big.Float) float64 {
	x, _ := v.Float64()
	return x
}

// The steps of the chapter, each with its one rounding.

func twoSum(a, b float64) (float64, float64) {
	s := plus(a, b)
	x := minus(s, a)
	y := minus(s, x)
	return s, plus(minus(a, y), minus(b, x))
}

func fastTwoSum(a, b float64) (float64, float64) {
	s := plus(a, b)
	return s, minus(b, minus(s, a))
}

func split(a float64) (float64, float64) {
	c := times(134217729, a)
	h := minus(c, minus(c, a))
	return h, minus(a, h)
}

func twoProd(a, b float64) (float64, float64) {
	p := times(a, b)
	h, l := split(a)
	m, n := split(b)
	rest := minus(minus(minus(p, times(h, m)), times(l, m)), times(h, n))
	return p, minus(times(l, n), rest)
}

func grow(l []float64, b float64) []float64 {
	var grown []float64
	q := b
	for _, x := range l {
		s, t := twoSum(q, x)
		grown, q = append(grown, t), s
	}
	return slices.DeleteFunc(append(grown, q), func(x float64) bool { return x == 0 })
}

func sum(l []float64) []float64 {
	var grown []float64
	for _, x := range l {
		grown = grow(grown, x)
	}
	return grown
}

func scale(l []float64, b float64) []float64 {
	var grown []float64
	for _, x := range l {
		p, e := twoProd(b, x)
		grown = grow(grow(grown, e), p)
	}
	return grown
}

// drawn is a moderate float, with few bits or many.
func drawn(s *probe.Source) float64 { return s.Float(s.Below(800) - 400) }

// moderates are edges of what is moderate, of 53 bits, of halves, and floats without a pattern; of either sign.
func moderates() []float64 {
	list := []float64{
		0, 0x1p-400, 0x1p400, math.Nextafter(0x1p-400, 1), math.Nextafter(0x1p400, 1), 0x1.fffffffffffffp-400, 0x1p-399,
		1, math.Nextafter(1, 2), math.Nextafter(1, 0), 1 + 0x1p-26, 1 + 0x1p-27, 1 + 0x1p-51, 0x1p-52, 0x1p-53, 0x1p-54, 3 * 0x1p-54, 0x1.8p-53, 0x1.fffffffffffffp-54, 0x1.0000000000001p-53, 0x1p-60,
		2, 3, 0.1, 0.2, 0.3, 1.0 / 3, 1e10, 1e100, 0x1p26, 0x1p27, 134217728, 134217729, 0x1p53, 0x1p53 - 1, 0x1p53 + 2, 0x1p54 - 2, 0x1p52 + 1, 0x1.5555555555555p0, 0x1.aaaaaaaaaaaaap0, 0x1.0000003ffffffp0, 0x1.0000004p0, 0x1.ffffffcp0,
	}
	s := probe.Source(71)
	for range 40 {
		list = append(list, drawn(&s))
	}
	for _, x := range slices.Clone(list) {
		list = append(list, -x)
	}
	return append(list, math.Copysign(0, -1))
}

// pairs are all of the moderate floats with one another, and floats that lie near each other, so that much cancels out.
func pairs() [][2]float64 {
	var list [][2]float64
	all := moderates()
	for _, a := range all {
		for _, b := range all {
			list = append(list, [2]float64{a, b})
		}
	}
	s := probe.Source(72)
	for range 4000 {
		exp := s.Below(600) - 300
		list = append(list, [2]float64{s.Float(exp), s.Float(exp + s.Below(120) - 60)})
	}
	for range 500 {
		a := drawn(&s)
		for _, b := range []float64{a, math.Nextafter(a, 0), a / 2, a * 0x1p-53, a * 0x1p-54, math.Nextafter(a*0x1p-53, 0), math.Nextafter(a, 2*a)} {
			if moderate(b) {
				list = append(list, [2]float64{a, -b}, [2]float64{-b, a}, [2]float64{a, b})
			}
		}
	}
	return list
}

func moderate(x float64) bool {
	amount := math.Abs(x)
	return x == 0 || 0x1p-400 <= amount && amount <= 0x1p400
}

// wilds are floats of which nothing is promised but that no call panics, beside some that are moderate.
func wilds() []float64 {
	list := []float64{
		math.NaN(), math.Inf(1), math.Inf(-1), math.MaxFloat64, -math.MaxFloat64, math.SmallestNonzeroFloat64, -math.SmallestNonzeroFloat64, 0x1p-1022, -0x1.fffffffffffffp-1023, 0x1p996, 0x1p997, -0x1p1023,
		math.Nextafter(0x1p-400, 0), math.Nextafter(0x1p400, math.Inf(1)), math.Float64frombits(0x7ff0000000000001), 0, 1, -0x1p400, 0x1p-400,
	}
	return append(list, math.Copysign(0, -1))
}

// lastBit is the worth of the last of a float's 53 bits.
func lastBit(x float64) float64 {
	_, exp := math.Frexp(x)
	return math.Ldexp(1, exp-53)
}

// 7.1
func TestSteps(t *testing.T) {
	for _, of := range pairs() {
		for name, ways := range map[string][2]func(float64, float64) (float64, float64){
			"TwoSum": {eft.TwoSum, twoSum}, "FastTwoSum": {eft.FastTwoSum, fastTwoSum}, "TwoProd": {eft.TwoProd, twoProd},
		} {
			a, b := ways[0](of[0], of[1])
			if c, d := ways[1](of[0], of[1]); a != c || b != d {
				t.Errorf("%s(%x, %x) = %x, %x, want %x, %x", name, of[0], of[1], a, b, c, d)
			}
		}
	}
	for _, x := range moderates() {
		h, l := eft.Split(x)
		if c, d := split(x); h != c || l != d {
			t.Errorf("Split(%x) = %x, %x, want %x, %x", x, h, l, c, d)
		}
	}
}

// 7.5
func TestSumsAreExact(t *testing.T) {
	for _, of := range pairs() {
		a, b := of[0], of[1]
		exact := total(a, b)
		s, e := eft.TwoSum(a, b)
		if total(s, e).Cmp(exact) != 0 || s != rounded(exact) || math.Abs(e) > lastBit(s)/2 {
			t.Errorf("TwoSum(%x, %x) = %x, %x", a, b, s, e)
		}
		if math.Abs(b) > math.Abs(a) && a != 0 {
			continue
		}
		if f, g := eft.FastTwoSum(a, b); f != s || g != e {
			t.Errorf("FastTwoSum(%x, %x) = %x, %x, want %x, %x", a, b, f, g, s, e)
		}
	}
}

// 7.5: the edges that part FastTwoSum from TwoSum.
func TestFastTwoSumEdges(t *testing.T) {
	for _, b := range moderates() {
		for _, zero := range []float64{0, math.Copysign(0, -1)} {
			if s, e := eft.FastTwoSum(zero, b); s != b || e != 0 {
				t.Errorf("FastTwoSum(0, %x) = %x, %x", b, s, e)
			}
		}
	}
	if s, e := eft.FastTwoSum(1, 0x1p53+2); s != 0x1p53+4 || e != -2 { // b is the greater one: its steps miss the error, which is -1
		t.Errorf("FastTwoSum(1, 2^53 + 2) = %x, %x", s, e)
	}
	if s, e := eft.TwoSum(1, 0x1p53+2); s != 0x1p53+4 || e != -1 {
		t.Errorf("TwoSum(1, 2^53 + 2) = %x, %x", s, e)
	}
}

// 7.5
func TestSplitIsExact(t *testing.T) {
	list := moderates()
	s := probe.Source(73)
	for range 5000 {
		list = append(list, drawn(&s))
	}
	for _, a := range list {
		h, l := eft.Split(a)
		if total(h, l).Cmp(exactly(a)) != 0 || exactly(h).MinPrec() > 26 || exactly(l).MinPrec() > 26 {
			t.Errorf("Split(%x) = %x, %x", a, h, l)
		}
	}
}

// 7.5
func TestProductsAreExact(t *testing.T) {
	for _, of := range append(pairs(), leastProducts()...) {
		exact := exactly(0).Mul(exactly(of[0]), exactly(of[1]))
		if p, e := eft.TwoProd(of[0], of[1]); total(p, e).Cmp(exact) != 0 || p != rounded(exact) {
			t.Errorf("TwoProd(%x, %x) = %x, %x", of[0], of[1], p, e)
		}
	}
}

// leastProducts are factors whose product is 2^-900 in amount, or little more.
func leastProducts() [][2]float64 {
	low := math.Nextafter(0x1p-500, 1)
	return [][2]float64{
		{0x1p-500, 0x1p-400}, {-0x1p-500, 0x1p-400}, {0x1p-500, -0x1p-400}, {0x1p-450, 0x1p-450}, {low, 0x1p-400}, {low, math.Nextafter(0x1p-400, 1)}, {0x1.fffffffffffffp-501, 0x1.0000000000001p-400}, {0x1.5555555555555p-500, -0x1.aaaaaaaaaaaabp-400},
	}
}

// 7.1, 7.4: just below 2^-900 the steps may lose the error of a product; they go on all the same.
func TestLesserProducts(t *testing.T) {
	for _, of := range [][2]float64{{0x1.fffffffffffffp-501, 0x1p-400}, {0x1.fffffffffffffp-501, 0x1.fffffffffffffp-401}, {0x1p-700, 0x1p-400}} {
		if p, _ := eft.TwoProd(of[0], of[1]); p != times(of[0], of[1]) {
			t.Errorf("TwoProd(%x, %x) = %x", of[0], of[1], p)
		}
	}
}

// 7.1, 7.2, 7.3
func TestExamples(t *testing.T) {
	for _, c := range []struct{ got, want [2]float64 }{
		{two(eft.TwoSum(1, 0x1p-60)), [2]float64{1, 0x1p-60}},
		{two(eft.TwoSum(0x1p53, 1)), [2]float64{0x1p53, 1}},
		{two(eft.TwoProd(1+0x1p-52, 1+0x1p-52)), [2]float64{1 + 0x1p-51, 0x1p-104}},
		{two(eft.Split(0x1p53 - 1)), [2]float64{0x1p53, -1}},
	} {
		if c.got != c.want {
			t.Errorf("%x, want %x", c.got, c.want)
		}
	}
	if l := eft.Sum([]float64{1, 0x1p100, -0x1p100}); !slices.Equal(l, []float64{1}) {
		t.Error("Sum:", l)
	}
	tenths := []float64{0.1, 0.2, -0.3}
	if l := eft.Sum(tenths); total(l...).Cmp(total(tenths...)) != 0 || eft.Sign(l) != 1 {
		t.Error("Sum:", l)
	}
}

func two(a, b float64) [2]float64 { return [2]float64{a, b} }
