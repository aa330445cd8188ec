package power_test

import (
	"math"
	"math/big"
	"reflect"
	"slices"
	"testing"

	"ulp/api"
	"ulp/dyad"
	"ulp/power"
	"ulp/probe"
)

// checkExact holds what Exact answers against what the tests find.
func checkExact(t *testing.T, x, y float64) bool {
	t.Helper()
	want, isWanted := few(x, y)
	d, is, why := power.Exact(word(x), word(y))
	switch {
	case why != api.OK || is != isWanted:
		t.Errorf("Exact(%g, %g) = %s, %v, error %d", x, y, show(d), is, why)
	case is && (!reflect.DeepEqual(d, canon(d)) || float(d).Cmp(want) != 0):
		t.Errorf("Exact(%g, %g) = %s, want %s", x, y, show(d), want.Text('g', 30))
	case !is && !reflect.DeepEqual(d, api.Dyad{}):
		t.Errorf("Exact(%g, %g) = false beside %s", x, y, show(d))
	}
	return is
}

// known: that it is told.
func known(t *testing.T, x, y float64, want api.Dyad) {
	t.Helper()
	if d, is, why := power.Exact(word(x), word(y)); why != api.OK || !is || !reflect.DeepEqual(d, canon(want)) {
		t.Errorf("Exact(%g, %g) = %s, %v, error %d, want %s", x, y, show(d), is, why, show(want))
	}
}

// unknown: none is told.
func unknown(t *testing.T, x, y float64) {
	t.Helper()
	if d, is, why := power.Exact(word(x), word(y)); why != api.OK || is || !reflect.DeepEqual(d, api.Dyad{}) {
		t.Errorf("Exact(%g, %g) = %s, %v, error %d, want none", x, y, show(d), is, why)
	}
}

// P22.2: all pairs of numbers, near and far.
func TestExact(t *testing.T) {
	for _, x := range bases() {
		for _, y := range exponents() {
			checkExact(t, x, y)
			if isWhole(y) {
				checkExact(t, -x, y)
			}
		}
	}
	for _, c := range some(sized(1, -5, 300, -1074, 12000, -15000, 20000, 40000), 7) {
		if hasValue(c.x, c.y) {
			checkExact(t, c.x, c.y)
		}
	}
}

// P22.2: roots, 2, 4, 8 times taken and more often, of numbers that are powers and of such that are none.
func TestExactRoots(t *testing.T) {
	told := 0
	s := probe.Source(41)
	for i := range 3000 {
		k := s.Below(6)
		root := math.Ldexp(float64(1+s.Below([]int{1, 1 << 12, 1 << 9, 40, 9, 3}[k])), s.Below(60)>>k-(30>>k))
		x := root
		for range k {
			x *= x
		}
		y := math.Ldexp(float64(s.Below(40)-20), -k)
		if i%5 == 0 {
			x = math.Nextafter(x, 0)
		}
		if i%7 == 0 {
			y /= 2
		}
		if checkExact(t, x, y) {
			told++
		}
	}
	if told < 1000 {
		t.Error("few are told:", told)
	}
	for k := range 11 { // 2^1024 is too great, but 2^-1024 is not
		degree := math.Ldexp(1, k)
		known(t, math.Ldexp(1, -1<<k), 1/degree, of(1, -1))
		known(t, math.Ldexp(1, -1<<k), -1/degree, of(1, 1))
		known(t, math.Ldexp(1, -1<<k), -7/degree, of(1, 7))
		unknown(t, math.Ldexp(1, -1<<k), 0.5/degree)
		unknown(t, math.Ldexp(1, -1<<k), 5.5/degree)
	}
	known(t, 43046721, 0.0625, of(3, 0))
	known(t, 43046721, 0.1875, of(27, 0))
	known(t, 1853020188851841, 1.0/32, of(3, 0))
	known(t, 1853020188851841, 31.0/32, api.Dyad{Abs: natural(new(big.Int).Exp(big.NewInt(3), big.NewInt(31), nil))})
	unknown(t, 1853020188851841, 1.0/64)
	unknown(t, 1853020188851841, -1.0/32)
	unknown(t, 2*43046721, 0.0625)
}

// P22.2: negative exponents have a dyadic value of powers of 2 alone.
func TestExactNegative(t *testing.T) {
	for n := 1; n < 200; n++ {
		x := float64(n)
		for y := 1.0; y < 9; y++ {
			if odd, exp := apart(x); odd == 1 {
				known(t, x, -y, of(1, -exp*int(y)))
				known(t, 1/x, -y, of(1, exp*int(y)))
			} else {
				unknown(t, x, -y)
				unknown(t, x/256, -y)
				unknown(t, -x, -y)
			}
		}
	}
	known(t, -2, -3, less(of(1, -3)))
	known(t, -0.5, -3, less(of(1, 3)))
	known(t, -0.5, -4, of(1, 4))
}

// P22.2: values that have just MaxFew bits, and one more.
func TestExactBits(t *testing.T) {
	var just, more int
	for n := int64(3); n < 3000; n += 2 {
		value := big.NewInt(n)
		for y := 1; value.BitLen() < 160; y++ {
			switch size := value.BitLen(); {
			case size <= api.MaxFew:
				known(t, float64(n), float64(y), api.Dyad{Abs: natural(value)})
				known(t, -float64(n)/4, float64(y), api.Dyad{Neg: y%2 == 1, Abs: natural(value), Exp: -2 * y})
			default:
				unknown(t, float64(n), float64(y))
				unknown(t, -float64(n)*8, float64(y))
			}
			switch value.BitLen() {
			case api.MaxFew:
				just++
			case api.MaxFew + 1:
				more++
			}
			value.Mul(value, big.NewInt(n))
		}
	}
	if just < 50 || more < 50 {
		t.Error("few values are at the edge:", just, more)
	}
	unknown(t, 3, 81)
	unknown(t, 3, 1e9)
	unknown(t, 3, 0x1p60)
	unknown(t, 3, greatest)
	unknown(t, 9, 0x1.fffffffffffffp52)
}

// P22.2: values whose Exp is just within bounds, and just beyond.
func TestExactExp(t *testing.T) {
	cube := of(27, 0)
	for _, sign := range []int{1, -1} {
		two := math.Ldexp(1, sign)
		known(t, two, api.MaxExp, of(1, sign*api.MaxExp))
		known(t, two, -api.MaxExp, of(1, -sign*api.MaxExp))
		known(t, -two, api.MaxExp-1, less(of(1, sign*(api.MaxExp-1))))
		unknown(t, two, api.MaxExp+1)
		unknown(t, two, -api.MaxExp-1)
		unknown(t, -two, api.MaxExp+1)
		unknown(t, two, 0x1p62)
		unknown(t, two, -0x1p64)
		unknown(t, two, greatest)
		known(t, math.Ldexp(1, 4*sign), api.MaxExp/4, of(1, sign*api.MaxExp))
		known(t, math.Ldexp(1, 4*sign), api.MaxExp/4-0.25, of(1, sign*(api.MaxExp-1)))
		unknown(t, math.Ldexp(1, 4*sign), api.MaxExp/4+0.25)
		known(t, math.Ldexp(3, 512*sign), 64, api.Dyad{Abs: natural(new(big.Int).Exp(big.NewInt(3), big.NewInt(64), nil)), Exp: sign * api.MaxExp})
		unknown(t, math.Ldexp(3, 513*sign), 64)
		known(t, math.Ldexp(3, 1000*sign), 3, api.Dyad{Abs: cube.Abs, Exp: 3000 * sign})
		unknown(t, math.Ldexp(3, 1000*sign), 33)
	}
	known(t, least, 30, of(1, -1074*30))
	known(t, least, -30.5, of(1, 537*61))
	unknown(t, least, 31)
	unknown(t, least, -31)
}

// P22.2: 1 and -1 have a power of few bits, whatever the exponent; so has every number, if the exponent is 0.
func TestExactOne(t *testing.T) {
	for _, y := range exponents() {
		known(t, 1, y, of(1, 0))
		switch {
		case !isWhole(y):
		case math.Mod(y, 2) != 0:
			known(t, -1, y, less(of(1, 0)))
		default:
			known(t, -1, y, of(1, 0))
		}
	}
	for _, x := range bases() {
		known(t, x, 0, of(1, 0))
		known(t, -x, math.Copysign(0, -1), of(1, 0))
	}
}

// P22.2
func TestExactOutside(t *testing.T) {
	for _, c := range outside() {
		if d, is, why := power.Exact(c[0], c[1]); why != api.ErrWhole || is || !reflect.DeepEqual(d, api.Dyad{}) {
			t.Errorf("Exact(%x, %x) = %s, %v, error %d, want ErrWhole", c[0], c[1], show(d), is, why)
		}
		if over, is := power.Far(c[0], c[1]); over || is {
			t.Errorf("Far(%x, %x) = %v, %v", c[0], c[1], over, is)
		}
		if power.Odd(c[0], c[1]) {
			t.Errorf("Odd(%x, %x)", c[0], c[1])
		}
	}
}

// P22.2: sizes round 2000 and 12000 in their amount, of either sign, and far ones.
func TestFar(t *testing.T) {
	list := sized(0.1, 1999, 2000, 2001, 11999, 12000, 12001, 15001, 1e6, 1e18, 1e300, -0.1, -1999, -2000, -2001, -11999, -12000, -12001, -15001, -1e6, -1e18, -1e300)
	for _, x := range append(bases(), -3, -0.5, -2) {
		for _, y := range exponents() {
			list = append(list, pair{x, y})
		}
	}
	for _, y := range []float64{2000, math.Nextafter(2000, 0), 12000, math.Nextafter(12000, 1e9), 12001} {
		list = append(list, pair{2, y}, pair{2, -y}, pair{0.5, y}, pair{0.5, -y}, pair{4, y / 2}, pair{-2, math.Trunc(y)})
	}
	for _, c := range list {
		if !hasValue(c.x, c.y) {
			continue
		}
		over, is := power.Far(word(c.x), word(c.y))
		switch {
		case over != (is && isOver(c.x, c.y)), is && !isBeyond(c.x, c.y, 2000), !is && isBeyond(c.x, c.y, 12000):
			t.Errorf("Far(%g, %g) = %v, %v", c.x, c.y, over, is)
		}
	}
}

// P22.2: where Enclose2 refuses a power for its size, it is far.
func TestFarIsRefused(t *testing.T) {
	for _, c := range sized(9000, 12000, 12500, 12900, 13000, 14999, 15001, -9000, -12000, -12500, -12900, -13000, -14999, -15001) {
		if !hasValue(c.x, c.y) {
			continue
		}
		_, why := power.Enclose2(api.FuncPow, word(c.x), word(c.y), 64)
		if _, is := power.Far(word(c.x), word(c.y)); why == api.ErrMany && !is {
			t.Errorf("%g to the power of %g is refused, but not far", c.x, c.y)
		}
	}
}

// P22.2
func TestOdd(t *testing.T) {
	for _, x := range bases() {
		for _, y := range append(exponents(), 0x1p53+2, 0x1p54-2, -(1<<53 - 1)) {
			for _, x := range []float64{x, -x} {
				if power.Odd(word(x), word(y)) != isNegative(x, y) {
					t.Errorf("Odd(%g, %g) = %v", x, y, !isNegative(x, y))
				}
			}
		}
	}
}

// The chapter's examples.
func TestExamples(t *testing.T) {
	known(t, 3, 4, of(81, 0))
	known(t, 4, -0.5, of(1, -1))
	unknown(t, 2, 0.5)
	unknown(t, 8, 1.0/3)
	known(t, -2, 3, less(of(8, 0)))
	known(t, 10, 40, api.Dyad{Abs: natural(new(big.Int).Exp(big.NewInt(10), big.NewInt(40), nil))})
	if d, _, _ := power.Exact(word(10), word(40)); d.Exp != 40 || integer(d.Abs).BitLen() != 93 {
		t.Error("10^40:", show(d))
	}
	if r, is, why := power.Root(dyad.Int(81), 2); why != api.OK || !is || !reflect.DeepEqual(r, dyad.Int(3)) {
		t.Error("Root(81, 2):", show(r), is, why)
	}
	if r, is, why := power.Root(dyad.Int(8), 1); why != api.OK || is || !reflect.DeepEqual(r, api.Dyad{}) {
		t.Error("Root(8, 1):", show(r), is, why)
	}
	if d, why := power.Whole(dyad.Int(3), 81); why != api.ErrMany || !reflect.DeepEqual(d, api.Dyad{}) {
		t.Error("Whole(3, 81):", show(d), why)
	}
	refused(t, api.FuncPow, word(2), word(16000), 64, api.ErrMany)
}

// outOfRoom are right numbers whose one form is not right.
func outOfRoom() []api.Dyad {
	return []api.Dyad{of(2, api.MaxExp), of(4, api.MaxExp), {Abs: api.Nat{0, 1, 0}, Exp: api.MaxExp}, {Abs: probe.Power2(64*api.MaxLimbs - 1), Exp: api.MaxExp}}
}

// zeros are 0 in several forms.
var zeros = []api.Dyad{{}, {Neg: true}, {Abs: api.Nat{}}, {Abs: api.Nat{0, 0}}, {Neg: true, Abs: api.Nat{0}, Exp: -api.MaxExp}, {Exp: api.MaxExp}}

// checkRoot holds what Root answers against what it should.
func checkRoot(t *testing.T, d api.Dyad, k int, want api.Dyad, isWanted bool) {
	t.Helper()
	if r, is, why := power.Root(d, k); why != api.OK || is != isWanted || !reflect.DeepEqual(r, want) {
		t.Errorf("Root of %d words, exponent %d, with %d = %d words, exponent %d, %v, error %d", len(d.Abs), d.Exp, k, len(r.Abs), r.Exp, is, why)
	}
}

// refusedRoot: that error, and nothing else.
func refusedRoot(t *testing.T, d api.Dyad, k int, want api.Errno) {
	t.Helper()
	if r, is, why := power.Root(d, k); why != want || is || !reflect.DeepEqual(r, api.Dyad{}) {
		t.Errorf("Root of %d words, exponent %d, with %d: error %d, want %d", len(d.Abs), d.Exp, k, why, want)
	}
}

// counts are those of roots: to the last one that is told.
var counts = []int{0, 1, 2, 3, 10, 63, 64, 1000, api.MaxExp - 1, api.MaxExp}

// P22.3: 0 and 1 are their own roots, in any form.
func TestRootOfZeroAndOne(t *testing.T) {
	for _, k := range counts {
		for _, zero := range zeros {
			checkRoot(t, zero, k, api.Dyad{}, true)
		}
		for _, one := range []api.Dyad{of(1, 0), of(8, -3), {Abs: append(probe.Power2(api.MaxExp), 0), Exp: -api.MaxExp}} {
			checkRoot(t, one, k, dyad.Int(1), true)
		}
	}
}

// P22.3: roots by whole numbers; each number has one just as often as its amount and its exponent have.
func TestRoot(t *testing.T) {
	for n := uint64(1); n < 700; n++ {
		for exp := -9; exp < 10; exp++ {
			d, k := canon(of(n, exp)), 0
			root, is := d, true
			for ; is && k < 12; k++ {
				checkRoot(t, of(n, exp), k, root, true)
				r := uint64(math.Round(math.Sqrt(float64(root.Abs[0]))))
				is = r*r == root.Abs[0] && root.Exp%2 == 0
				root = api.Dyad{Abs: api.Nat{r}, Exp: root.Exp / 2}
			}
			if !is {
				for _, k := range []int{k, k + 1, 64, api.MaxExp} {
					checkRoot(t, of(n, exp), k, api.Dyad{}, false)
				}
			}
		}
	}
}

// P22.3: numbers of many bits and of exponents at the bounds; forms that are not the one form; and what lies beside a square.
func TestRootOfMany(t *testing.T) {
	s := probe.Source(43)
	for i := range 60 {
		root := canon(api.Dyad{Abs: append(s.Natural(s.Below(9)), 1|s.Word()), Exp: s.Below(400) - 200})
		k := i % 5
		square := new(big.Int).Exp(integer(root.Abs), big.NewInt(1<<k), nil)
		d := api.Dyad{Abs: natural(square), Exp: root.Exp << k}
		checkRoot(t, d, k, root, true)
		checkRoot(t, api.Dyad{Abs: append(natural(new(big.Int).Lsh(square, 70)), 0, 0), Exp: d.Exp - 70}, k, root, true)
		if k > 0 {
			checkRoot(t, api.Dyad{Abs: natural(square.Sub(square, big.NewInt(2))), Exp: d.Exp}, k, api.Dyad{}, false)
			checkRoot(t, api.Dyad{Abs: d.Abs, Exp: d.Exp + 1}, k, api.Dyad{}, false)
		}
	}
	for k := range 16 {
		checkRoot(t, of(1, api.MaxExp), k, of(1, api.MaxExp>>k), true)
		checkRoot(t, of(1, -api.MaxExp), k, of(1, -(api.MaxExp>>k)), true)
	}
	checkRoot(t, of(1, api.MaxExp), 16, api.Dyad{}, false)
	checkRoot(t, of(1, -api.MaxExp), api.MaxExp, api.Dyad{}, false)
	checkRoot(t, api.Dyad{Abs: probe.Filled(api.MaxLimbs, 1<<64-1)}, 1, api.Dyad{}, false)
	half := canon(api.Dyad{Abs: probe.Filled(api.MaxLimbs/2, 1<<64-1), Exp: -3})
	checkRoot(t, api.Dyad{Abs: natural(new(big.Int).Exp(integer(half.Abs), big.NewInt(2), nil)), Exp: -6}, 1, half, true)
}

// P22.3: what is not right, below 0, or has no room, in this order.
func TestRootWrong(t *testing.T) {
	wrongCounts := []int{-1, -2, math.MinInt, api.MaxExp + 1, 2 * api.MaxExp, math.MaxInt}
	for _, d := range probe.WrongNumbers() {
		for _, k := range append(wrongCounts, counts...) {
			refusedRoot(t, d, k, api.ErrRange)
			refusedRoot(t, less(d), k, api.ErrRange)
		}
	}
	for _, d := range slices.Concat(outOfRoom(), zeros, []api.Dyad{of(1, 0), less(of(4, 0)), of(9, -2)}) {
		for _, k := range wrongCounts {
			refusedRoot(t, d, k, api.ErrRange)
		}
	}
	for _, k := range counts {
		for _, d := range append(outOfRoom(), of(1, 0), of(4, 0), of(3, -7), of(1, -api.MaxExp)) {
			refusedRoot(t, less(d), k, api.ErrWhole)
		}
		for _, d := range outOfRoom() {
			refusedRoot(t, d, k, api.ErrMany)
		}
	}
}

// checkWhole holds what Whole answers against the power, by whole numbers.
func checkWhole(t *testing.T, d api.Dyad, n int) {
	t.Helper()
	got, why := power.Whole(d, n)
	abs := integer(d.Abs)
	low := int(abs.TrailingZeroBits())
	odd, exp := new(big.Int).Rsh(abs, uint(low)), big.NewInt(int64(d.Exp+low))
	exp.Mul(exp, big.NewInt(int64(n)))
	isOne := odd.Cmp(big.NewInt(1)) == 0
	many := n > 0 && odd.Sign() > 0 && (new(big.Int).Abs(exp).Cmp(big.NewInt(api.MaxExp)) > 0 || !isOne && n > api.MaxFew || odd.BitLen() > api.MaxFew)
	want := of(1, 0)
	if !many && n > 0 && odd.Sign() == 0 {
		want = api.Dyad{}
	} else if !many && n > 0 {
		if !isOne {
			odd.Exp(odd, big.NewInt(int64(n)), nil)
		}
		many = odd.BitLen() > api.MaxFew
		want = api.Dyad{Neg: d.Neg && n%2 == 1, Abs: natural(odd), Exp: int(exp.Int64())}
	}
	if many && (why != api.ErrMany || !reflect.DeepEqual(got, api.Dyad{})) || !many && (why != api.OK || !reflect.DeepEqual(got, want)) {
		t.Errorf("Whole of %d words, exponent %d, with %d = %s, error %d", len(d.Abs), d.Exp, n, show(got), why)
	}
}

// P22.3
func TestWhole(t *testing.T) {
	list := slices.Concat(probe.Numbers(), probe.GreatNumbers(), zeros, outOfRoom())
	list = append(list, of(3, 0), of(5, -1), of(10, 0), of(1, 1), less(of(1, -1)), of(1, 512), of(3, -512), of(1, 7), of(1<<53-1, 20), api.Dyad{Abs: probe.Filled(2, 1<<64-1)}, api.Dyad{Abs: append(probe.Filled(2, 1<<64-1), 1)})
	for n := uint64(3); n < 99; n += 2 {
		list = append(list, of(n, 0), less(of(n, -3)))
	}
	for _, d := range list {
		for n := range 140 {
			checkWhole(t, d, n)
		}
		for _, n := range []int{api.MaxExp / 7, api.MaxExp - 1, api.MaxExp, api.MaxExp + 1, 1 << 20, 1<<20 + 1, 1 << 40, math.MaxInt - 1, math.MaxInt} {
			checkWhole(t, d, n)
		}
	}
}

// P22.3: of 0, 1 and -1 with any count.
func TestWholeOfOne(t *testing.T) {
	for _, n := range []int{0, 1, 2, 3, 1000, 1001, math.MaxInt - 1, math.MaxInt} {
		sign := dyad.Int(1)
		if n%2 == 1 {
			sign = dyad.Int(-1)
		}
		zero := api.Dyad{}
		if n == 0 {
			zero = dyad.Int(1)
		}
		for _, c := range []struct{ d, want api.Dyad }{{of(1, 0), dyad.Int(1)}, {of(4, -2), dyad.Int(1)}, {less(of(1, 0)), sign}, {zeros[0], zero}, {zeros[4], zero}} {
			if got, why := power.Whole(c.d, n); why != api.OK || !reflect.DeepEqual(got, c.want) {
				t.Errorf("Whole(%s, %d) = %s, error %d", show(c.d), n, show(got), why)
			}
		}
	}
}

// P22.3
func TestWholeWrong(t *testing.T) {
	refused := func(d api.Dyad, n int) {
		if got, why := power.Whole(d, n); why != api.ErrRange || !reflect.DeepEqual(got, api.Dyad{}) {
			t.Errorf("Whole of %d words, exponent %d, with %d: error %d, want ErrRange", len(d.Abs), d.Exp, n, why)
		}
	}
	for _, n := range []int{math.MinInt, -1000, -1, 0, 1, 2, math.MaxInt} {
		for _, d := range probe.WrongNumbers() {
			refused(d, n)
			refused(less(d), n)
		}
	}
	for _, n := range []int{math.MinInt, -1000, -1} {
		for _, d := range slices.Concat(zeros, outOfRoom(), []api.Dyad{of(1, 0), of(2, 0), less(of(3, -1))}) {
			refused(d, n)
		}
	}
}

// P22.4: of roots and whole powers.
func TestNewMemoryOfDyads(t *testing.T) {
	for _, d := range append([]api.Dyad{of(1, 0), of(81, 0), of(16, -4), {Abs: api.Nat{0, 1, 0}, Exp: -64}, {Abs: api.Nat{}, Exp: 3}}, probe.Numbers()...) {
		before := slices.Clone(d.Abs)
		for _, n := range []int{0, 1, 2, 3, 5} {
			a, _, _ := power.Root(d, n)
			b, _, _ := power.Root(d, n)
			c, _ := power.Whole(d, n)
			e, _ := power.Whole(d, n)
			if !probe.Apart([]api.Nat{a.Abs, b.Abs, c.Abs, e.Abs}, d.Abs) {
				t.Errorf("answers of %s with %d share memory", show(d), n)
			}
		}
		if !slices.Equal(before, d.Abs) {
			t.Errorf("an argument is changed: %s", show(d))
		}
	}
}
