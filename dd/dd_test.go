package dd_test

import (
	"encoding/binary"
	"math"
	"math/big"
	"slices"
	"testing"

	"ulp/api"
	"ulp/dd"
	"ulp/dyad"
	"ulp/eft"
	"ulp/probe"
)

// wide is enough bits for sums and products of all floats of these tests without a rounding.
const wide = 4500

func exactly(x float64) *big.Float { return new(big.Float).SetPrec(wide).SetFloat64(x) }

// worth is what a pair is, or some pairs are together.
func worth(pairs ...api.Pair) *big.Float {
	sum := exactly(0)
	for _, a := range pairs {
		sum.Add(sum, exactly(a.Hi))
		sum.Add(sum, exactly(a.Lo))
	}
	return sum
}

func rounded(v *big.Float) float64 {
	x, _ := v.Float64()
	return x
}

// plus, minus, times and over are binary64's own: the exact value, rounded once.
func plus(a, b float64) float64 { return rounded(worth(api.Pair{Hi: a, Lo: b})) }

func minus(a, b float64) float64 { return plus(a, -b) }

func times(a, b float64) float64 { return rounded(exactly(0).Mul(exactly(a), exactly(b))) }

func over(a, b float64) float64 {
	top, bottom := new(big.Rat).SetFloat64(a), new(big.Rat).SetFloat64(b)
	x, _ := top.Quo(top, bottom).Float64()
	return x
}

// The steps of the chapter, each operation with its one rounding.

func sumOf(x, y api.Pair) api.Pair {
	s, t := eft.TwoSum(x.Hi, y.Hi)
	u, v := eft.TwoSum(x.Lo, y.Lo)
	c := plus(t, u)
	a, b := eft.FastTwoSum(s, c)
	d := plus(v, b)
	return pairOf(eft.FastTwoSum(a, d))
}

func productOf(x, y api.Pair) api.Pair {
	c, e := eft.TwoProd(x.Hi, y.Hi)
	f := times(x.Hi, y.Lo)
	g := times(x.Lo, y.Hi)
	h := plus(f, g)
	i := plus(e, h)
	return pairOf(eft.FastTwoSum(c, i))
}

func timesFloat(x api.Pair, k float64) api.Pair {
	c, e := eft.TwoProd(x.Hi, k)
	f := times(x.Lo, k)
	a, b := eft.FastTwoSum(c, f)
	d := plus(b, e)
	return pairOf(eft.FastTwoSum(a, d))
}

func quotientOf(x, y api.Pair) api.Pair {
	q := over(x.Hi, y.Hi)
	r := timesFloat(y, q)
	a := minus(x.Hi, r.Hi)
	b := minus(x.Lo, r.Lo)
	c := plus(a, b)
	d := over(c, y.Hi)
	return pairOf(eft.FastTwoSum(q, d))
}

func pairOf(hi, lo float64) api.Pair { return api.Pair{Hi: hi, Lo: lo} }

func less(a api.Pair) api.Pair { return api.Pair{Hi: -a.Hi, Lo: -a.Lo} }

// drawn is a right pair; its Lo lies near half of Hi's last bit, or far below it, or is 0.
func drawn(s *probe.Source, exp int) api.Pair {
	a := api.Pair{Hi: s.Float(exp)}
	switch s.Below(4) {
	case 0:
		a.Lo = s.Float(exp - 54)
	case 1:
		a.Lo = s.Float(exp - 54 - s.Below(60))
	case 2:
		a.Lo = s.Float(exp - 54 - s.Below(600))
	}
	a.Hi, a.Lo = eft.FastTwoSum(a.Hi, a.Lo)
	return a
}

// zeros are pairs of both zeros.
func zeros() []api.Pair {
	minusZero := math.Copysign(0, -1)
	return []api.Pair{{}, {Hi: minusZero}, {Lo: minusZero}, {Hi: minusZero, Lo: minusZero}}
}

// rights are pairs at the edges of what is right, and some without a pattern; of either sign.
func rights() []api.Pair {
	up := math.Nextafter(1, 2)
	list := []api.Pair{
		{Hi: 0x1p-300}, {Hi: 0x1p300}, {Hi: math.Nextafter(0x1p-300, 1)}, {Hi: math.Nextafter(0x1p300, 1)},
		{Hi: 0x1p-300, Lo: -0x1p-354}, {Hi: 0x1p-300, Lo: 0x1p-353}, {Hi: 0x1p300, Lo: 0x1p247}, {Hi: 0x1p300, Lo: -0x1p246},
		{Hi: 0x1p300, Lo: math.SmallestNonzeroFloat64}, {Hi: 0x1p-300, Lo: -math.SmallestNonzeroFloat64}, {Hi: 1, Lo: 0x1p-1022},
		{Hi: 1}, {Hi: 1, Lo: 0x1p-53}, {Hi: 1, Lo: -0x1p-54}, {Hi: 1, Lo: 0x1p-60}, {Hi: 1, Lo: 0x1p-80}, {Hi: 1, Lo: 0x1.fffffffffffffp-54}, {Hi: 1, Lo: -0x1.fffffffffffffp-55},
		{Hi: up}, {Hi: up, Lo: 0x1.fffffffffffffp-54}, {Hi: up, Lo: -0x1.fffffffffffffp-54}, {Hi: up + 0x1p-52, Lo: 0x1p-53}, {Hi: up + 0x1p-52, Lo: -0x1p-53}, {Hi: 0x1.fffffffffffffp0, Lo: 0x1.fffffffffffffp-54},
		{Hi: 2}, {Hi: 3}, {Hi: 0.1}, {Hi: 1.0 / 3, Lo: 0x1.5555555555555p-56}, {Hi: 0x1p100}, {Hi: 0x1p53 - 1, Lo: 0.25},
	}
	s := probe.Source(81)
	for range 30 {
		list = append(list, drawn(&s, s.Below(599)-299))
	}
	for _, a := range slices.Clone(list) {
		list = append(list, less(a))
	}
	return append(list, zeros()...)
}

// wrongs are pairs that are not right, by Hi, by Lo, by both.
func wrongs() []api.Pair {
	inf, none, up := math.Inf(1), math.NaN(), math.Nextafter(1, 2)
	list := []api.Pair{
		{Hi: math.Nextafter(0x1p-300, 0)}, {Hi: math.Nextafter(0x1p300, inf)}, {Hi: 0x1p301}, {Hi: 0x1p-301}, {Hi: 0x1p-1022}, {Hi: math.SmallestNonzeroFloat64}, {Hi: math.MaxFloat64},
		{Hi: 1, Lo: 1}, {Hi: 1, Lo: math.Nextafter(0x1p-53, 1)}, {Hi: 1, Lo: -math.Nextafter(0x1p-54, 1)}, {Hi: up, Lo: 0x1p-53}, {Hi: up, Lo: -0x1p-53}, {Hi: 1, Lo: 0x1p-52}, {Hi: 0x1p-80, Lo: 1}, {Hi: 0x1p300, Lo: 0x1.0000000000001p247},
		{Lo: 1}, {Lo: 0x1p-300}, {Lo: math.SmallestNonzeroFloat64}, {Hi: inf}, {Hi: inf, Lo: 1}, {Hi: 1, Lo: inf}, {Hi: inf, Lo: inf}, {Hi: inf, Lo: -inf}, {Lo: inf},
		{Hi: none}, {Lo: none}, {Hi: 1, Lo: none}, {Hi: none, Lo: 1}, {Hi: none, Lo: none}, {Hi: inf, Lo: none},
	}
	for _, a := range slices.Clone(list) {
		list = append(list, less(a))
	}
	return list
}

// couples are all right pairs with one another, and such as lie near each other, so that much cancels out.
func couples() [][2]api.Pair {
	var list [][2]api.Pair
	all := rights()
	for _, a := range all {
		for _, b := range all {
			list = append(list, [2]api.Pair{a, b})
		}
	}
	s := probe.Source(82)
	for range 4000 {
		exp := s.Below(400) - 200
		a, b := drawn(&s, exp), drawn(&s, exp+s.Below(120)-60)
		list = append(list, [2]api.Pair{a, b})
		b = a
		b.Lo = math.Nextafter(b.Lo, 0)
		if dd.Right(b) {
			list = append(list, [2]api.Pair{a, b}, [2]api.Pair{a, less(b)})
		}
		b = pairOf(eft.FastTwoSum(math.Nextafter(a.Hi, 0), s.Float(exp-56)))
		list = append(list, [2]api.Pair{a, b}, [2]api.Pair{less(b), a})
	}
	return list
}

// value is a dyadic number as a float without a rounding.
func value(d api.Dyad) *big.Float {
	var digits []byte
	for _, w := range slices.Backward(d.Abs) {
		digits = binary.BigEndian.AppendUint64(digits, w)
	}
	v := new(big.Float).SetPrec(wide).SetInt(new(big.Int).SetBytes(digits))
	v.SetMantExp(v, d.Exp)
	if d.Neg {
		v.Neg(v)
	}
	return v
}

// P8.1
func TestRight(t *testing.T) {
	for _, a := range rights() {
		if !dd.Right(a) {
			t.Errorf("%x is right", a)
		}
		if amount := math.Abs(a.Hi); a.Hi != rounded(worth(a)) || amount != 0 && (amount < 0x1p-300 || amount > 0x1p300) {
			t.Errorf("%x is not right, this test is wrong", a)
		}
	}
	for _, a := range wrongs() {
		if dd.Right(a) {
			t.Errorf("%x is not right", a)
		}
	}
}

// P8.1
func TestOf(t *testing.T) {
	list := slices.Concat(rights(), wrongs())
	for _, x := range probe.Floats() {
		list = append(list, api.Pair{Hi: math.Float64frombits(x)})
	}
	for _, a := range list {
		amount := math.Abs(a.Hi)
		got, why := dd.Of(a.Hi)
		switch {
		case amount == 0 || 0x1p-300 <= amount && amount <= 0x1p300:
			if why != api.OK || got != (api.Pair{Hi: a.Hi}) {
				t.Errorf("Of(%x) = %x, error %d", a.Hi, got, why)
			}
		case why != api.ErrRange || got != api.Pair{}:
			t.Errorf("Of(%x) = %x, error %d, want ErrRange", a.Hi, got, why)
		}
	}
}

// P8.1
func TestValue(t *testing.T) {
	for _, a := range rights() {
		d, why := dd.Value(a)
		if why != api.OK || value(d).Cmp(worth(a)) != 0 {
			t.Errorf("Value(%x) = %v, error %d", a, d, why)
		}
		one, why := dyad.Canon(d)
		if why != api.OK || one.Neg != d.Neg || one.Exp != d.Exp || !slices.Equal(one.Abs, d.Abs) {
			t.Errorf("Value(%x) = %v is not in its one form", a, d)
		}
		again, _ := dd.Value(a)
		if !probe.Apart([]api.Nat{d.Abs, again.Abs}) {
			t.Errorf("Value(%x) answers one memory twice", a)
		}
	}
	for _, a := range wrongs() {
		if d, why := dd.Value(a); why != api.ErrRange || d.Neg || len(d.Abs) != 0 || d.Exp != 0 {
			t.Errorf("Value(%x) = %v, error %d, want ErrRange", a, d, why)
		}
	}
}

// P8.2
func TestSteps(t *testing.T) {
	for _, of := range couples() {
		a, b := of[0], of[1]
		expect(t, "Add", dd.Add, a, b, sumOf(a, b))
		expect(t, "Sub", dd.Sub, a, b, sumOf(a, less(b)))
		expect(t, "Mul", dd.Mul, a, b, productOf(a, b))
		if b == (api.Pair{}) {
			if q, why := dd.Div(a, b); why != api.ErrZero || q != (api.Pair{}) {
				t.Errorf("Div(%x, 0) = %x, error %d, want ErrZero", a, q, why)
			}
			continue
		}
		expect(t, "Div", dd.Div, a, b, quotientOf(a, b))
	}
}

func expect(t *testing.T, name string, call func(a, b api.Pair) (api.Pair, api.Errno), a, b, want api.Pair) {
	t.Helper()
	if got, why := call(a, b); why != api.OK || got != want {
		t.Errorf("%s(%x, %x) = %x, error %d, want %x", name, a, b, got, why, want)
	}
}

// P8.2
func TestNegAbs(t *testing.T) {
	for _, a := range rights() {
		got, why := dd.Neg(a)
		if why != api.OK || got != less(a) {
			t.Errorf("Neg(%x) = %x, error %d", a, got, why)
		}
		want := a
		if worth(a).Sign() < 0 {
			want = less(a)
		}
		if got, why = dd.Abs(a); why != api.OK || got != want {
			t.Errorf("Abs(%x) = %x, error %d", a, got, why)
		}
	}
}

// P8.2, P8.8
func TestCmp(t *testing.T) {
	for _, of := range couples() {
		a, b := of[0], of[1]
		want := worth(a).Cmp(worth(b))
		if got, why := dd.Cmp(a, b); got != want || why != api.OK {
			t.Errorf("Cmp(%x, %x) = %d, error %d, want %d", a, b, got, why, want)
		}
		if got, _ := dd.Cmp(b, a); got != -want {
			t.Errorf("Cmp(%x, %x) = %d, want %d", b, a, got, -want)
		}
		x, _ := dd.Neg(a)
		y, _ := dd.Neg(b)
		if got, why := dd.Cmp(x, y); got != -want || why != api.OK {
			t.Errorf("Cmp(%x, %x) = %d, error %d, want %d", x, y, got, why, -want)
		}
	}
}

// P8.8: pairs that differ in Lo alone.
func TestCmpByLo(t *testing.T) {
	for _, hi := range []float64{1, -1, 0x1p300, -0x1p-300} {
		var last api.Pair
		for i, lo := range []float64{-0x1p-56, -0x1p-100, -0x1p-700, 0, 0x1p-700, 0x1p-100, 0x1p-56} {
			a := api.Pair{Hi: hi, Lo: lo * math.Abs(hi)}
			if n, why := dd.Cmp(last, a); i > 0 && (n != -1 || why != api.OK) {
				t.Errorf("Cmp(%x, %x) = %d, error %d", last, a, n, why)
			}
			last = a
		}
	}
}

// P8.2: ErrRange is told ahead of ErrZero.
func TestWrongPairs(t *testing.T) {
	for _, bad := range wrongs() {
		for _, other := range slices.Concat(zeros(), []api.Pair{{Hi: 1}, {Hi: -3, Lo: 0x1p-60}, bad, {Lo: 1}}) {
			for _, of := range [][2]api.Pair{{bad, other}, {other, bad}} {
				for i, call := range []func(a, b api.Pair) (api.Pair, api.Errno){dd.Add, dd.Sub, dd.Mul, dd.Div} {
					if got, why := call(of[0], of[1]); why != api.ErrRange || got != (api.Pair{}) {
						t.Errorf("call %d of %x = %x, error %d, want ErrRange", i, of, got, why)
					}
				}
				if n, why := dd.Cmp(of[0], of[1]); why != api.ErrRange || n != 0 {
					t.Errorf("Cmp of %x = %d, error %d, want ErrRange", of, n, why)
				}
			}
		}
		for i, call := range []func(api.Pair) (api.Pair, api.Errno){dd.Neg, dd.Abs} {
			if got, why := call(bad); why != api.ErrRange || got != (api.Pair{}) {
				t.Errorf("call %d of %x = %x, error %d, want ErrRange", i, bad, got, why)
			}
		}
	}
}

// The chapter's examples.
func TestExamples(t *testing.T) {
	expect(t, "Add", dd.Add, api.Pair{Hi: 1}, api.Pair{Hi: 0x1p-80}, api.Pair{Hi: 1, Lo: 0x1p-80})
	expect(t, "Mul", dd.Mul, api.Pair{Hi: 1, Lo: 0x1p-60}, api.Pair{Hi: 3}, api.Pair{Hi: 3, Lo: 3 * 0x1p-60})
	if q, why := dd.Div(api.Pair{Hi: 1}, api.Pair{Hi: 3}); why != api.OK || q.Hi != 1.0/3 {
		t.Errorf("1 / 3 = %x, error %d", q, why)
	}
	if a, why := dd.Of(0x1p301); why != api.ErrRange || a != (api.Pair{}) {
		t.Errorf("Of(2^301) = %x, error %d", a, why)
	}
	if dd.Right(api.Pair{Hi: 1, Lo: 1}) {
		t.Error("(1, 1) is not right")
	}
	if s, why := dd.Sum([]float64{0x1p100, 1, -0x1p100}); why != api.OK || s != (api.Pair{Hi: 1}) {
		t.Errorf("Sum = %x, error %d", s, why)
	}
	if p, why := dd.Poly([]float64{1, 2, 3}, 0.5); why != api.OK || p != (api.Pair{Hi: 4.25}) {
		t.Errorf("Poly = %x, error %d", p, why)
	}
}
