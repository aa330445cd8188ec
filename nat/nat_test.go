package nat_test

import (
	"encoding/binary"
	"math"
	"math/big"
	"slices"
	"testing"

	"ulp/api"
	"ulp/nat"
	"ulp/probe"
)

const all = uint64(math.MaxUint64)

// naturals are the edges, and numbers without a pattern.
func naturals() []api.Nat {
	list := []api.Nat{
		nil, {}, {0}, {0, 0, 0}, {1}, {1, 0}, {2}, {3}, {7}, {8}, {9}, {10}, {26}, {27}, {28}, {5, 0, 0},
		{1 << 63}, {1<<63 - 1}, {all - 1}, {all}, {all, 0}, {0, 1}, {1, 1}, {all, 1}, {0, 1 << 63}, {0, 1<<63 - 1},
		{all, all}, {0, 0, 1}, {0, 0, 1, 0, 0}, {1, 0, 1}, {all, all, all}, {all - 1, all, all, all},
		{10_000_000_000_000_000_000}, {9_999_999_999_999_999_999}, {7766279631452241920, 5},
		probe.Filled(40, all), append(probe.Filled(40, 0), 1), append(probe.Filled(20, all), 0, 0),
	}
	s := probe.Source(1)
	for n := range 24 {
		list = append(list, s.Natural(n), s.Natural(n+1))
	}
	return list
}

// greatOnes are at the limit of size.
func greatOnes() []api.Nat {
	s := probe.Source(2)
	return []api.Nat{
		probe.Filled(api.MaxLimbs, all), append(probe.Filled(api.MaxLimbs, all), 0, 0, 0), probe.Power2(65535), append(probe.Filled(api.MaxLimbs-1, 0), all),
		probe.Filled(api.MaxLimbs/2, all), probe.Power2(32768), probe.Power2(32767), s.Natural(api.MaxLimbs - 1), append(s.Natural(api.MaxLimbs-1), 1),
	}
}

func value(a api.Nat) *big.Int {
	bytes := make([]byte, 0, 8*len(a))
	for _, w := range slices.Backward(a) {
		bytes = binary.BigEndian.AppendUint64(bytes, w)
	}
	return new(big.Int).SetBytes(bytes)
}

// expect holds an answer against what it should be: normal, of that value; or an error and nothing else, if that has no room.
func expect(t *testing.T, what string, got api.Nat, why api.Errno, want *big.Int) {
	t.Helper()
	switch {
	case want.BitLen() > 64*api.MaxLimbs:
		if why != api.ErrMany || len(got) != 0 {
			t.Errorf("%s: %d words and error %d, want ErrMany alone", what, len(got), why)
		}
	case why != api.OK:
		t.Errorf("%s: error %d", what, why)
	case len(got) > 0 && got[len(got)-1] == 0:
		t.Errorf("%s: %v is not normal", what, got)
	case value(got).Cmp(want) != 0:
		t.Errorf("%s: %x, want %x", what, value(got), want)
	}
}

// refused tells of a call that should have answered ErrMany, and no number.
func refused(t *testing.T, what string, why api.Errno, list ...api.Nat) {
	t.Helper()
	if why != api.ErrMany {
		t.Errorf("%s: error %d, want ErrMany", what, why)
	}
	for _, x := range list {
		if len(x) != 0 {
			t.Errorf("%s answers %v beside an error", what, x)
		}
	}
}

// 3.1: an argument that is too great is told ahead of all else, at whatever place it stands.
func TestTooGreatArgument(t *testing.T) {
	for _, a := range []api.Nat{append(probe.Filled(api.MaxLimbs, 0), 1), probe.Filled(api.MaxLimbs+1, all), append(probe.Filled(2*api.MaxLimbs, 0), 1, 0)} {
		x, why := nat.Norm(a)
		refused(t, "Norm", why, x)
		n, why := nat.Len(a)
		refused(t, "Len", why, nat.Of(uint64(n)))
		n, why = nat.Low(a)
		refused(t, "Low", why, nat.Of(uint64(n)))
		for _, i := range []int{-1, 0, 64 * api.MaxLimbs} {
			b, why := nat.Bit(a, i)
			if b {
				t.Error("Bit answers beside an error")
			}
			refused(t, "Bit", why)
			x, why = nat.Shl(a, i)
			refused(t, "Shl", why, x)
			x, b, why = nat.Shr(a, i)
			if b {
				t.Error("Shr answers beside an error")
			}
			refused(t, "Shr", why, x)
			x, why = nat.Pow(a, i)
			refused(t, "Pow", why, x)
		}
		for _, b := range []api.Nat{nil, {1}, a} {
			for _, two := range [][2]api.Nat{{a, b}, {b, a}} {
				n, why = nat.Cmp(two[0], two[1])
				refused(t, "Cmp", why, nat.Of(uint64(n)))
				x, why = nat.Add(two[0], two[1])
				refused(t, "Add", why, x)
				x, why = nat.Sub(two[0], two[1])
				refused(t, "Sub", why, x)
				x, why = nat.Mul(two[0], two[1])
				refused(t, "Mul", why, x)
				q, r, why := nat.Div(two[0], two[1])
				refused(t, "Div", why, q, r)
			}
		}
		q, r, why := nat.Sqrt(a)
		refused(t, "Sqrt", why, q, r)
		q, r, why = nat.Cbrt(a)
		refused(t, "Cbrt", why, q, r)
		s, why := nat.Text(a)
		if s != "" {
			t.Error("Text answers beside an error")
		}
		refused(t, "Text", why)
	}
}

// 3.1: what is at the limit of size is answered, what is one past it not.
func TestTooGreatAnswer(t *testing.T) {
	most := probe.Filled(api.MaxLimbs, all)
	less, _ := nat.Sub(most, api.Nat{1})
	sum, why := nat.Add(less, api.Nat{1})
	expect(t, "Add at the limit", sum, why, value(most))
	sum, why = nat.Add(most, api.Nat{1})
	expect(t, "Add past the limit", sum, why, new(big.Int).Add(value(most), big.NewInt(1)))
	for _, e := range [][2]int{{65535, 0}, {32768, 32767}, {32768, 32768}, {65535, 1}, {1, 65535}, {65535, 65535}, {0, 65535}, {65472, 63}, {65472, 64}} {
		product, why := nat.Mul(probe.Power2(e[0]), probe.Power2(e[1]))
		expect(t, "Mul at the limit", product, why, value(probe.Power2(e[0]+e[1])))
		shifted, why := nat.Shl(probe.Power2(e[0]), e[1])
		expect(t, "Shl at the limit", shifted, why, value(probe.Power2(e[0]+e[1])))
	}
	product, why := nat.Mul(most, nil)
	expect(t, "Mul with 0", product, why, new(big.Int))
	product, why = nat.Mul(nil, most)
	expect(t, "Mul of 0", product, why, new(big.Int))
	product, why = nat.Mul(most, api.Nat{1})
	expect(t, "Mul with 1", product, why, value(most))
	product, why = nat.Mul(most, api.Nat{2})
	expect(t, "Mul with 2", product, why, new(big.Int).Lsh(value(most), 1))
	// 3^41348 has 65536 bits, 3^41349 has 65537.
	for _, n := range []int{41348, 41349, 41350, 65535, 65536, math.MaxInt} {
		got, why := nat.Pow(api.Nat{3}, n)
		want := new(big.Int).Exp(big.NewInt(3), big.NewInt(int64(min(n, 65536))), nil)
		expect(t, "Pow of 3", got, why, want)
	}
	for _, n := range []int{65535, 65536, 65537, math.MaxInt} {
		got, why := nat.Pow(api.Nat{2}, n)
		expect(t, "Pow of 2", got, why, new(big.Int).Lsh(big.NewInt(1), uint(min(n, 65537))))
	}
}

// 3.2
func TestWordsAndBits(t *testing.T) {
	for _, w := range []uint64{0, 1, 2, 1 << 63, all} {
		expect(t, "Of", nat.Of(w), api.OK, new(big.Int).SetUint64(w))
	}
	for _, a := range append(naturals(), greatOnes()...) {
		want := value(a)
		x, why := nat.Norm(a)
		expect(t, "Norm", x, why, want)
		if n, why := nat.Len(a); n != want.BitLen() || why != api.OK {
			t.Errorf("Len(%x) = %d, error %d", want, n, why)
		}
		if n, why := nat.Low(a); n != int(want.TrailingZeroBits()) || why != api.OK {
			t.Errorf("Low(%x) = %d, error %d", want, n, why)
		}
		for _, i := range []int{0, 1, 62, 63, 64, 65, 127, 128, 129, 64*len(a) - 1, 64 * len(a), math.MaxInt} {
			if i < 0 {
				continue
			}
			wanted := i < want.BitLen() && want.Bit(i) == 1
			if b, why := nat.Bit(a, i); b != wanted || why != api.OK {
				t.Errorf("Bit(%x, %d) = %v, error %d", want, i, b, why)
			}
		}
		for _, i := range []int{-1, -64, math.MinInt} {
			if b, why := nat.Bit(a, i); b || why != api.ErrRange {
				t.Errorf("Bit(%x, %d) = %v, error %d, want ErrRange", want, i, b, why)
			}
		}
	}
}

// checkTwo holds all that is done with two numbers against what it should be.
func checkTwo(t *testing.T, a, b api.Nat) {
	t.Helper()
	x, y := value(a), value(b)
	if n, why := nat.Cmp(a, b); n != x.Cmp(y) || why != api.OK {
		t.Errorf("Cmp(%x, %x) = %d, error %d", x, y, n, why)
	}
	sum, why := nat.Add(a, b)
	expect(t, "Add", sum, why, new(big.Int).Add(x, y))
	product, why := nat.Mul(a, b)
	expect(t, "Mul", product, why, new(big.Int).Mul(x, y))
	rest, why := nat.Sub(a, b)
	if x.Cmp(y) < 0 {
		if why != api.ErrLess || len(rest) != 0 {
			t.Errorf("Sub(%x, %x): %v, error %d, want ErrLess", x, y, rest, why)
		}
	} else {
		expect(t, "Sub", rest, why, new(big.Int).Sub(x, y))
	}
	checkDiv(t, a, b)
}

func checkDiv(t *testing.T, a, b api.Nat) {
	t.Helper()
	x, y := value(a), value(b)
	q, r, why := nat.Div(a, b)
	if y.Sign() == 0 {
		if why != api.ErrZero || len(q) != 0 || len(r) != 0 {
			t.Errorf("Div(%x, 0): error %d, want ErrZero", x, why)
		}
		return
	}
	quotient, left := new(big.Int).QuoRem(x, y, new(big.Int))
	expect(t, "Div's quotient", q, why, quotient)
	expect(t, "Div's rest", r, why, left)
}

// 3.3
func TestReckon(t *testing.T) {
	list := naturals()
	for _, a := range list {
		for _, b := range list {
			checkTwo(t, a, b)
		}
	}
	list = greatOnes()
	for _, a := range list {
		for _, b := range append(list, api.Nat{1}, api.Nat{all}, api.Nat{0, 1}, api.Nat{all, all, 3}) {
			checkTwo(t, a, b)
			checkTwo(t, b, a)
		}
	}
}

// 3.3: words at the edges are those at which a guess of the quotient may be too great.
func TestDivAtEdges(t *testing.T) {
	edges := []uint64{0, 1, 1<<63 - 1, 1 << 63, 1<<63 + 1, all - 1, all}
	number := func(n, code int) api.Nat {
		a := make(api.Nat, n)
		for i := range a {
			a[i] = edges[code%len(edges)]
			code /= len(edges)
		}
		return a
	}
	for a := range 2401 {
		for b := range 343 {
			checkDiv(t, number(4, a), number(3, b))
			if b < 49 {
				checkDiv(t, number(4, a), number(2, b))
			}
		}
	}
	s := probe.Source(3)
	for range 3000 {
		b := s.Natural(2 + s.Below(5))
		// Just below a multiple, and at it, the guess is tried hardest.
		multiple, _ := nat.Mul(b, s.Natural(1+s.Below(5)))
		checkDiv(t, multiple, b)
		if below, why := nat.Sub(multiple, api.Nat{1}); why == api.OK {
			checkDiv(t, below, b)
		}
	}
}

// 3.4
func TestShifts(t *testing.T) {
	shifts := []int{0, 1, 2, 31, 63, 64, 65, 127, 128, 129, 1000, 65535, 65536, 65537, math.MaxInt}
	for _, a := range append(naturals(), greatOnes()...) {
		x := value(a)
		for _, n := range shifts {
			left, why := nat.Shl(a, n)
			expect(t, "Shl", left, why, new(big.Int).Lsh(x, uint(min(n, 65537))))
			right, lost, why := nat.Shr(a, n)
			expect(t, "Shr", right, why, new(big.Int).Rsh(x, uint(n)))
			if want := x.Sign() != 0 && int(x.TrailingZeroBits()) < n; lost != want {
				t.Errorf("Shr(%x, %d): lost %v", x, n, lost)
			}
		}
		for _, n := range []int{-1, -64, math.MinInt} {
			if left, why := nat.Shl(a, n); why != api.ErrRange || len(left) != 0 {
				t.Errorf("Shl(%x, %d): error %d, want ErrRange", x, n, why)
			}
			if right, lost, why := nat.Shr(a, n); why != api.ErrRange || len(right) != 0 || lost {
				t.Errorf("Shr(%x, %d): error %d, want ErrRange", x, n, why)
			}
		}
	}
}

// checkRoots holds both roots of a number against what makes them roots (3.4, 3.10).
func checkRoots(t *testing.T, a api.Nat) {
	t.Helper()
	for degree, root := range map[int64]func(api.Nat) (api.Nat, api.Nat, api.Errno){2: nat.Sqrt, 3: nat.Cbrt} {
		r, left, why := root(a)
		if why != api.OK {
			t.Errorf("root %d of %x: error %d", degree, value(a), why)
			continue
		}
		n := big.NewInt(degree)
		power := new(big.Int).Exp(value(r), n, nil)
		next := new(big.Int).Exp(new(big.Int).Add(value(r), big.NewInt(1)), n, nil)
		if power.Cmp(value(a)) > 0 || next.Cmp(value(a)) <= 0 {
			t.Errorf("root %d of %x = %x", degree, value(a), value(r))
		}
		expect(t, "root", r, why, value(r))
		expect(t, "what a root leaves", left, why, new(big.Int).Sub(value(a), power))
	}
}

// 3.4, 3.10: squares, cubes, their neighbours, and what has no pattern.
func TestRoots(t *testing.T) {
	for n := range uint64(5000) {
		checkRoots(t, api.Nat{n})
	}
	s := probe.Source(4)
	for _, a := range append(naturals(), s.Natural(64), s.Natural(65), s.Natural(100)) {
		checkRoots(t, a)
		for n := 2; n <= 3; n++ {
			power, why := nat.Pow(a, n)
			if why != api.OK {
				continue
			}
			checkRoots(t, power)
			more, _ := nat.Add(power, api.Nat{1})
			checkRoots(t, more)
			if less, why := nat.Sub(power, api.Nat{1}); why == api.OK {
				checkRoots(t, less)
			}
		}
	}
	for _, a := range greatOnes() {
		checkRoots(t, a)
	}
}

// 3.4
func TestPow(t *testing.T) {
	for _, a := range naturals() {
		for n := range 12 {
			got, why := nat.Pow(a, n)
			expect(t, "Pow", got, why, new(big.Int).Exp(value(a), big.NewInt(int64(n)), nil))
		}
		for _, n := range []int{-1, math.MinInt} {
			if got, why := nat.Pow(a, n); why != api.ErrRange || len(got) != 0 {
				t.Errorf("Pow(%x, %d): error %d, want ErrRange", value(a), n, why)
			}
		}
	}
	for _, n := range []int{1, 2, 65536, 65537, math.MaxInt} {
		got, why := nat.Pow(nil, n)
		expect(t, "Pow of 0", got, why, new(big.Int))
		got, why = nat.Pow(api.Nat{1, 0}, n)
		expect(t, "Pow of 1", got, why, big.NewInt(1))
	}
	for _, a := range greatOnes() {
		got, why := nat.Pow(a, 1)
		expect(t, "Pow by 1", got, why, value(a))
		got, why = nat.Pow(a, 0)
		expect(t, "Pow by 0", got, why, big.NewInt(1))
		got, why = nat.Pow(a, 2)
		expect(t, "Pow by 2", got, why, new(big.Int).Mul(value(a), value(a)))
	}
}

// 3.7
func TestSemiring(t *testing.T) {
	s := probe.Source(5)
	add := func(a, b api.Nat) api.Nat { c, _ := nat.Add(a, b); return c }
	mul := func(a, b api.Nat) api.Nat { c, _ := nat.Mul(a, b); return c }
	for range 500 {
		a, b, c := s.Natural(s.Below(9)), s.Natural(s.Below(9)), s.Natural(s.Below(9))
		if !slices.Equal(add(a, add(b, c)), add(add(a, b), c)) || !slices.Equal(add(a, b), add(b, a)) {
			t.Errorf("sums of %v, %v, %v", a, b, c)
		}
		if !slices.Equal(mul(a, mul(b, c)), mul(mul(a, b), c)) || !slices.Equal(mul(a, b), mul(b, a)) {
			t.Errorf("products of %v, %v, %v", a, b, c)
		}
		if !slices.Equal(mul(a, add(b, c)), add(mul(a, b), mul(a, c))) {
			t.Errorf("* over + of %v, %v, %v", a, b, c)
		}
		back, why := nat.Sub(add(a, b), b)
		expect(t, "a + b - b", back, why, value(a))
	}
}

// 3.8, 3.9
func TestDivisionAndShifts(t *testing.T) {
	s := probe.Source(6)
	for range 500 {
		a, b := s.Natural(s.Below(12)), append(s.Natural(s.Below(6)), 1+s.Word()%9)
		q, r, _ := nat.Div(a, b)
		if n, _ := nat.Cmp(r, b); n >= 0 {
			t.Errorf("Div(%v, %v) leaves %v", a, b, r)
		}
		product, _ := nat.Mul(q, b)
		back, why := nat.Add(product, r)
		expect(t, "q b + r", back, why, value(a))

		n := s.Below(300)
		power, _ := nat.Pow(api.Nat{2}, n)
		product, _ = nat.Mul(a, power)
		shifted, why := nat.Shl(a, n)
		expect(t, "Shl", shifted, why, value(product))
		back, lost, why := nat.Shr(shifted, n)
		expect(t, "Shr of Shl", back, why, value(a))
		if lost {
			t.Errorf("Shr of Shl of %v by %d loses", a, n)
		}
	}
}

// 3.6
func TestNewMemory(t *testing.T) {
	for _, a := range []api.Nat{{7}, {5, 0, 0}, {all, all, all}, {0, 0, 9}, {0, 6}, probe.Filled(9, all)} {
		for _, b := range []api.Nat{nil, {1}, {3, 0}, {all, 1}, probe.Filled(9, all)} {
			x, y := slices.Grow(slices.Clone(a), 4), slices.Grow(slices.Clone(b), 4)
			var answers []api.Nat
			keep := func(n api.Nat, why api.Errno) { answers = append(answers, n) }
			keep2 := func(n, m api.Nat, why api.Errno) { answers = append(answers, n, m) }
			for _, two := range [][2]api.Nat{{x, y}, {y, x}, {x, x}} {
				keep(nat.Add(two[0], two[1]))
				keep(nat.Sub(two[0], two[1]))
				keep(nat.Mul(two[0], two[1]))
				keep2(nat.Div(two[0], two[1]))
			}
			keep(nat.Norm(x))
			keep(nat.Shl(x, 0))
			keep(nat.Shl(x, 70))
			for _, n := range []int{0, 1, 64} {
				keep(nat.Pow(x, n))
				right, _, why := nat.Shr(x, n)
				keep(right, why)
			}
			keep2(nat.Sqrt(x))
			keep2(nat.Cbrt(x))
			if !probe.Apart(answers, x, y) {
				t.Errorf("answers of %v, %v share memory", a, b)
			}
			if !slices.Equal(x, a) || !slices.Equal(y, b) {
				t.Errorf("%v, %v became %v, %v", a, b, x, y)
			}
		}
	}
}

// The chapter's first two examples.
func TestExamples(t *testing.T) {
	equal := func(what string, got, want api.Nat) {
		t.Helper()
		if !slices.Equal(got, want) {
			t.Errorf("%s = %v, want %v", what, got, want)
		}
	}
	sum, _ := nat.Add(api.Nat{all}, api.Nat{1})
	equal("Add", sum, api.Nat{0, 1})
	product, _ := nat.Mul(api.Nat{all}, api.Nat{all})
	equal("Mul", product, api.Nat{1, all - 1})
	rest, _ := nat.Sub(api.Nat{0, 1}, api.Nat{1})
	equal("Sub", rest, api.Nat{all})
	if _, why := nat.Sub(api.Nat{1}, api.Nat{2}); why != api.ErrLess {
		t.Error("Sub: error", why)
	}
	q, r, _ := nat.Div(api.Nat{0, 1}, api.Nat{3})
	equal("Div", q, api.Nat{6148914691236517205})
	equal("Div's rest", r, api.Nat{1})
	if n, _ := nat.Len(api.Nat{0, 1}); n != 65 {
		t.Error("Len:", n)
	}
	if n, _ := nat.Low(api.Nat{0, 1}); n != 64 {
		t.Error("Low:", n)
	}
	right, lost, _ := nat.Shr(api.Nat{3}, 1)
	equal("Shr", right, api.Nat{1})
	if !lost {
		t.Error("Shr loses nothing")
	}
	root, left, _ := nat.Sqrt(api.Nat{0, 0, 1})
	equal("Sqrt", root, api.Nat{0, 1})
	equal("Sqrt's rest", left, nil)
	root, left, _ = nat.Cbrt(api.Nat{26})
	equal("Cbrt", root, api.Nat{2})
	equal("Cbrt's rest", left, api.Nat{18})
	power, _ := nat.Pow(api.Nat{10}, 20)
	equal("Pow", power, api.Nat{7766279631452241920, 5})
	norm, _ := nat.Norm(api.Nat{5, 0, 0})
	equal("Norm", norm, api.Nat{5})
}
