package alg_test

import (
	"math"
	"slices"
	"testing"

	"ulp/alg"
	"ulp/api"
	"ulp/bits"
	"ulp/dyad"
	"ulp/probe"
	"ulp/round"
)

// told is what must be answered of a number; toldOf of two.
func told(t *testing.T, f call, x uint64) api.Result {
	t.Helper()
	r, why := f(x)
	if why != api.OK {
		t.Fatalf("of %x: error %d", x, why)
	}
	return r
}

func toldOf(t *testing.T, x, y uint64) api.Result {
	t.Helper()
	r, why := alg.Hypot(x, y)
	if why != api.OK {
		t.Fatalf("Hypot(%x, %x): error %d", x, y, why)
	}
	return r
}

// cube is that of a dyadic number, exactly.
func cube(t *testing.T, d api.Dyad) api.Dyad {
	t.Helper()
	square, _ := dyad.Mul(d, d)
	c, why := dyad.Mul(square, d)
	if why != api.OK {
		t.Fatal("a cube without room")
	}
	return c
}

func isAbove(a, b api.Dyad) bool {
	order, _ := dyad.Cmp(a, b)
	return order > 0
}

// 21.3: of either sign; where the cube of the answer is the number, and just there, nothing is inexact.
func TestBetween(t *testing.T) {
	for _, x := range amounts() {
		for _, x := range []uint64{x, bits.Neg(x)} {
			r := told(t, alg.Cbrt, x)
			number, _ := dyad.From(x)
			root, _ := dyad.From(r.Bits)
			up, _ := round.Mid(r.Bits)
			down, _ := round.Mid(bits.Down(r.Bits))
			if isAbove(cube(t, down), number) || isAbove(number, cube(t, up)) {
				t.Errorf("Cbrt(%x) = %x: the cubes of the points of change do not have it between", x, r)
			}
			order, _ := dyad.Cmp(cube(t, root), number)
			if (order == 0) != (r.Flags == 0) || order != 0 && r.Flags != api.Inexact {
				t.Errorf("Cbrt(%x) = %x: its cube stands at %d", x, r, order)
			}
		}
	}
}

// 21.4: cubes; and their neighbours, which are none.
func TestCubes(t *testing.T) {
	s := probe.Source(31)
	for n := range uint64(1000) {
		root := float64(n + 1)
		if n > 200 {
			root = float64(1 + s.Word()%(1<<17)) // so that the cube has at most 51 bits
		}
		exp := s.Below(600) - 300
		r, x := floatBits(math.Ldexp(root, exp)), floatBits(math.Ldexp(root*root*root, 3*exp))
		same(t, "Cbrt", alg.Cbrt, x, api.Result{Bits: r})
		same(t, "Cbrt", alg.Cbrt, bits.Neg(x), api.Result{Bits: bits.Neg(r)})
		for _, beside := range []uint64{x - 1, x + 1} {
			if got := told(t, alg.Cbrt, beside); got.Flags != api.Inexact {
				t.Errorf("Cbrt(%x) = %x, want Inexact", beside, got)
			}
		}
	}
	for exp := -358; exp <= 341; exp++ { // all powers of 8
		same(t, "Cbrt", alg.Cbrt, floatBits(math.Ldexp(1, 3*exp)), api.Result{Bits: floatBits(math.Ldexp(1, exp))})
	}
	for n := range 15 { // subnormal ones: 27 times 2^(3 n - 1074)
		same(t, "Cbrt", alg.Cbrt, 27<<(3*n), api.Result{Bits: floatBits(math.Ldexp(3, n-358))})
	}
}

// 21.4: squares and powers of 4 likewise, with their neighbours.
func TestSquares(t *testing.T) {
	s := probe.Source(32)
	for range 1000 {
		root, exp := float64(1+s.Word()%(1<<26)), s.Below(900)-450
		r, x := floatBits(math.Ldexp(root, exp)), floatBits(math.Ldexp(root*root, 2*exp))
		same(t, "Sqrt", alg.Sqrt, x, api.Result{Bits: r})
		for _, beside := range []uint64{x - 1, x + 1} {
			if got := told(t, alg.Sqrt, beside); got.Flags != api.Inexact {
				t.Errorf("Sqrt(%x) = %x, want Inexact", beside, got)
			}
		}
	}
	for exp := -537; exp < 512; exp++ {
		x := floatBits(math.Ldexp(1, 2*exp))
		same(t, "Sqrt", alg.Sqrt, x, api.Result{Bits: floatBits(math.Ldexp(1, exp))})
		same(t, "Rsqrt", alg.Rsqrt, x, api.Result{Bits: floatBits(math.Ldexp(1, -exp))})
		if got := told(t, alg.Rsqrt, x+1); got.Flags != api.Inexact {
			t.Errorf("Rsqrt(%x) = %x, want Inexact", x+1, got)
		}
	}
}

// 21.4: from where all is subnormal to where 5 is just not too great.
func TestThreeFourFive(t *testing.T) {
	for exp := -1074; exp <= 1021; exp++ {
		x, y, want := floatBits(math.Ldexp(3, exp)), floatBits(math.Ldexp(4, exp)), floatBits(math.Ldexp(5, exp))
		if r := toldOf(t, x, y); r != (api.Result{Bits: want}) {
			t.Errorf("Hypot of 3 and 4 times 2^%d = %x, want %x", exp, r, want)
		}
		if r := toldOf(t, y|minusZero, x); r != (api.Result{Bits: want}) {
			t.Errorf("Hypot of -4 and 3 times 2^%d = %x, want %x", exp, r, want)
		}
	}
}

// 21.5
func TestMirror(t *testing.T) {
	for _, x := range append(amounts(), 0) {
		same(t, "Cbrt", alg.Cbrt, bits.Neg(x), below(told(t, alg.Cbrt, x)))
	}
	for _, x := range sides() {
		for _, y := range sides() {
			want := toldOf(t, x, y)
			for _, r := range []api.Result{toldOf(t, y, x), toldOf(t, bits.Neg(x), y), toldOf(t, x, bits.Neg(y)), toldOf(t, bits.Neg(y), bits.Neg(x))} {
				if r != want {
					t.Errorf("Hypot of %x and %x, mirrored or turned = %x, want %x", x, y, r, want)
				}
			}
		}
	}
}

// scaled is a number times a power of 2, if that is a normal one and so is the number.
func scaled(x uint64, exp int) (uint64, bool) {
	y := floatBits(math.Ldexp(math.Float64frombits(x), exp))
	return y, x >= leastNorm && y >= leastNorm && y < infinity
}

// 21.6: the exceptions are the same, too.
func TestPowersOfEight(t *testing.T) {
	times := func(r api.Result, exp int) api.Result {
		r.Bits = floatBits(math.Ldexp(math.Float64frombits(r.Bits), exp))
		return r
	}
	for _, x := range amounts() {
		if y, is := scaled(x, 3); is {
			same(t, "Cbrt", alg.Cbrt, y, times(told(t, alg.Cbrt, x), 1))
		}
		if y, is := scaled(x, 2); is {
			same(t, "Rsqrt", alg.Rsqrt, y, times(told(t, alg.Rsqrt, x), -1))
			same(t, "Sqrt", alg.Sqrt, y, times(told(t, alg.Sqrt, x), 1))
		}
		for _, y := range sides() {
			x2, is := scaled(x, 1)
			y2, isToo := scaled(y, 1)
			if !is || !isToo {
				continue
			}
			want := times(toldOf(t, x, y), 1)
			if r := toldOf(t, x2, y2); want.Bits < infinity && r != want {
				t.Errorf("Hypot of twice %x and %x = %x, want %x", x, y, r, want)
			}
		}
	}
}

// rising are numbers from 0 on in their order, with many neighbours.
func rising() []uint64 {
	list := slices.Concat(amounts(), besideSquares(), []uint64{0})
	for i := range uint64(300) {
		list = append(list, one-150+i, leastNorm-150+i, i, greatest-i, 0x4020000000000000-150+i, 0x5430000000000000+i)
	}
	slices.Sort(list)
	return slices.Compact(list)
}

// 21.7
func TestRising(t *testing.T) {
	list := rising()
	for i := range list[1:] {
		x, y := list[i], list[i+1]
		if bits.Less(told(t, alg.Cbrt, y).Bits, told(t, alg.Cbrt, x).Bits) || bits.Less(told(t, alg.Cbrt, bits.Neg(x)).Bits, told(t, alg.Cbrt, bits.Neg(y)).Bits) {
			t.Errorf("Cbrt falls from %x to %x, or from less the one to less the other", x, y)
		}
		if bits.Less(told(t, alg.Sqrt, y).Bits, told(t, alg.Sqrt, x).Bits) {
			t.Errorf("Sqrt falls from %x to %x", x, y)
		}
		if x != 0 && bits.Less(told(t, alg.Rsqrt, x).Bits, told(t, alg.Rsqrt, y).Bits) {
			t.Errorf("Rsqrt rises from %x to %x", x, y)
		}
	}
}

// 21.7: at least the greater amount, at most both together; and rising with each of the two.
func TestHypotBounds(t *testing.T) {
	for _, x := range sides() {
		was := uint64(0)
		for _, y := range rising() {
			r := toldOf(t, x, y).Bits
			both := floatBits(math.Float64frombits(x) + math.Float64frombits(y))
			if r < max(x, y) || r > both || r < was {
				t.Errorf("Hypot(%x, %x) = %x, both together %x, and of the y ahead %x", x, y, r, both, was)
			}
			was = r
		}
	}
}
