package bits_test

import (
	"math"
	"math/big"
	"slices"
	"testing"

	"ulp/api"
	"ulp/bits"
)

const (
	minusZero = uint64(1) << 63
	inf       = uint64(0x7ff0000000000000)
	minusInf  = uint64(0xfff0000000000000)
	greatest  = uint64(0x7fefffffffffffff)
	leastNorm = uint64(0x0010000000000000)
	one       = uint64(0x3ff0000000000000)
)

// rising are words in the total order, as the chapter tells it.
var rising = []uint64{
	0xffffffffffffffff, 0xfff8000000000001, 0xfff8000000000000, // quiet, negative
	0xfff7ffffffffffff, 0xfff0000000000001, // signalling, negative
	minusInf,
	0xffefffffffffffff, 0xc000000000000000, 0xbff0000000000001, 0xbff0000000000000, 0xbfe0000000000000,
	0x8010000000000001, 0x8010000000000000, 0x800fffffffffffff, 0x8000000000000002, 0x8000000000000001,
	minusZero, 0,
	1, 2, 0x000fffffffffffff, leastNorm, 0x0010000000000001,
	0x3fe0000000000000, 0x3fefffffffffffff, one, 0x3ff0000000000001, 0x4000000000000000, greatest,
	inf,
	0x7ff0000000000001, 0x7ff7ffffffffffff, // signalling
	0x7ff8000000000000, 0x7ff8000000000001, 0x7fffffffffffffff, // quiet
}

// words are the edges, the neighbourhood of every power of 2, and words without a pattern.
func words() []uint64 {
	list := slices.Clone(rising)
	for e := range uint64(2048) {
		for _, x := range []uint64{e << 52, e<<52 + 1, e<<52 + 1<<51, e<<52 + 0x000fffffffffffff} {
			list = append(list, x, x|minusZero)
		}
	}
	state := uint64(1)
	for range 20000 {
		state = state*6364136223846793005 + 1442695040888963407
		list = append(list, state^state>>29)
	}
	return list
}

func float(x uint64) float64 { return math.Float64frombits(x) }

func isNumber(x uint64) bool { return !math.IsNaN(float(x)) }

func isFinite(x uint64) bool { return isNumber(x) && !math.IsInf(float(x), 0) }

// 1.1
func TestClass(t *testing.T) {
	for x, want := range map[uint64]api.ClassKind{
		0:                  api.ClassZero,
		1:                  api.ClassSubnormal,
		0x000fffffffffffff: api.ClassSubnormal,
		leastNorm:          api.ClassNormal,
		one:                api.ClassNormal,
		greatest:           api.ClassNormal,
		inf:                api.ClassInf,
		0x7ff0000000000001: api.ClassSignal,
		0x7ff7ffffffffffff: api.ClassSignal,
		0x7ff8000000000000: api.ClassQuiet,
		0x7fffffffffffffff: api.ClassQuiet,
	} {
		for _, y := range []uint64{x, x | minusZero} {
			if got := bits.Class(y); got != want {
				t.Errorf("Class(%x) = %d, want %d", y, got, want)
			}
		}
	}
	for _, x := range words() {
		if got, want := bits.Class(x), classByValue(x); got != want {
			t.Errorf("Class(%x) = %d, want %d", x, got, want)
		}
	}
}

func classByValue(x uint64) api.ClassKind {
	v := math.Abs(float(x))
	switch {
	case math.IsNaN(v) && x&(1<<51) != 0:
		return api.ClassQuiet
	case math.IsNaN(v):
		return api.ClassSignal
	case math.IsInf(v, 0):
		return api.ClassInf
	case v == 0:
		return api.ClassZero
	case v < 0x1p-1022:
		return api.ClassSubnormal
	}
	return api.ClassNormal
}

// 1.1
func TestSplit(t *testing.T) {
	for x, want := range map[uint64]api.Fields{
		0:                  {},
		minusZero:          {Neg: true},
		0x8000000000000001: {Neg: true, Frac: 1},
		one:                {Exp: 1023},
		0xc008000000000000: {Neg: true, Exp: 1024, Frac: 1 << 51},
		greatest:           {Exp: 2046, Frac: 1<<52 - 1},
		minusInf:           {Neg: true, Exp: 2047},
		0xffffffffffffffff: {Neg: true, Exp: 2047, Frac: 1<<52 - 1},
	} {
		if got := bits.Split(x); got != want {
			t.Errorf("Split(%x) = %+v, want %+v", x, got, want)
		}
	}
}

// 1.1: a number is what its fields say.
func TestFieldsTellTheValue(t *testing.T) {
	for _, x := range words() {
		if !isFinite(x) {
			continue
		}
		f := bits.Split(x)
		v := math.Ldexp(float64(1<<52+f.Frac), f.Exp-1075)
		if f.Exp == 0 {
			v = math.Ldexp(float64(f.Frac), -1074)
		}
		if f.Neg {
			v = -v
		}
		if math.Float64bits(v) != x {
			t.Errorf("Split(%x) = %+v is %g", x, f, v)
		}
	}
}

// 1.1
func TestJoinRefuses(t *testing.T) {
	for _, f := range []api.Fields{
		{Exp: -1}, {Exp: 2048}, {Exp: math.MinInt}, {Exp: math.MaxInt}, {Neg: true, Exp: 4096},
		{Frac: 1 << 52}, {Exp: 1023, Frac: 1 << 53}, {Neg: true, Exp: 2047, Frac: math.MaxUint64},
		{Exp: -1, Frac: 1 << 52},
	} {
		if x, why := bits.Join(f); x != 0 || why != api.ErrRange {
			t.Errorf("Join(%+v) = %x, %d", f, x, why)
		}
	}
}

// 1.5
func TestSplitAndJoinThereAndBack(t *testing.T) {
	for _, x := range words() {
		if got, why := bits.Join(bits.Split(x)); got != x || why != api.OK {
			t.Errorf("Join(Split(%x)) = %x, %d", x, got, why)
		}
	}
	for exp := range 2048 {
		for _, frac := range []uint64{0, 1, 1 << 51, 1<<52 - 1} {
			for _, neg := range []bool{false, true} {
				f := api.Fields{Neg: neg, Exp: exp, Frac: frac}
				x, why := bits.Join(f)
				if got := bits.Split(x); got != f || why != api.OK {
					t.Errorf("Split(Join(%+v)) = %+v, %d", f, got, why)
				}
			}
		}
	}
}

// 1.2
func TestUpAndDownAtTheEdges(t *testing.T) {
	for _, c := range []struct{ x, up, down uint64 }{
		{0, 1, 0x8000000000000001},
		{minusZero, 1, 0x8000000000000001},
		{1, 2, 0},
		{0x8000000000000001, minusZero, 0x8000000000000002},
		{0x000fffffffffffff, leastNorm, 0x000ffffffffffffe},
		{leastNorm, 0x0010000000000001, 0x000fffffffffffff},
		{one, 0x3ff0000000000001, 0x3fefffffffffffff},
		{0xbff0000000000000, 0xbfefffffffffffff, 0xbff0000000000001},
		{greatest, inf, 0x7feffffffffffffe},
		{0xffefffffffffffff, 0xffeffffffffffffe, minusInf},
		{inf, inf, greatest},
		{minusInf, 0xffefffffffffffff, minusInf},
		{0x7ff8000000000000, 0x7ff8000000000000, 0x7ff8000000000000},
		{0xfff8000000000000, 0xfff8000000000000, 0xfff8000000000000},
		{0x7ff0000000000001, 0x7ff0000000000001, 0x7ff0000000000001},
		{0xfff0000000000001, 0xfff0000000000001, 0xfff0000000000001},
		{0xffffffffffffffff, 0xffffffffffffffff, 0xffffffffffffffff},
		{0x7fffffffffffffff, 0x7fffffffffffffff, 0x7fffffffffffffff},
	} {
		if got := bits.Up(c.x); got != c.up {
			t.Errorf("Up(%x) = %x, want %x", c.x, got, c.up)
		}
		if got := bits.Down(c.x); got != c.down {
			t.Errorf("Down(%x) = %x, want %x", c.x, got, c.down)
		}
	}
}

// 1.2, 1.6
func TestNeighbours(t *testing.T) {
	for _, x := range words() {
		up, down := bits.Up(x), bits.Down(x)
		if !isNumber(x) {
			if up != x || down != x {
				t.Errorf("of %x, no number: Up %x, Down %x", x, up, down)
			}
			continue
		}
		if want := math.Nextafter(float(x), math.Inf(1)); float(up) != want {
			t.Errorf("Up(%x) = %x, want %g", x, up, want)
		}
		if want := math.Nextafter(float(x), math.Inf(-1)); float(down) != want {
			t.Errorf("Down(%x) = %x, want %g", x, down, want)
		}
		if down != bits.Neg(bits.Up(bits.Neg(x))) {
			t.Errorf("Down(%x) = %x is not the mirrored Up", x, down)
		}
		if back := bits.Down(up); isFinite(x) && float(x) != 0 && x != 0x8000000000000001 && back != x {
			t.Errorf("Down(Up(%x)) = %x", x, back)
		}
	}
}

// 1.2
func TestNegAndAbs(t *testing.T) {
	for _, x := range words() {
		want := x + minusZero
		if got := bits.Neg(x); got != want {
			t.Errorf("Neg(%x) = %x", x, got)
		}
		if got := bits.Abs(x); got != min(x, want) {
			t.Errorf("Abs(%x) = %x", x, got)
		}
	}
}

// 1.2
func TestStepsAtTheEdges(t *testing.T) {
	for _, c := range []struct {
		x, y, want uint64
		why        api.Errno
	}{
		{0x8000000000000001, 1, 2, api.OK},
		{0, 0, 0, api.OK},
		{0, minusZero, 0, api.OK},
		{minusZero, 0, 0, api.OK},
		{minusZero, 1, 1, api.OK},
		{0, 1, 1, api.OK},
		{0x8000000000000001, 0, 1, api.OK},
		{0x8000000000000001, minusZero, 1, api.OK},
		{one, 0x4000000000000000, 1 << 52, api.OK},
		{0xc000000000000000, 0xbff0000000000000, 1 << 52, api.OK},
		{greatest, inf, 1, api.OK},
		{inf, inf, 0, api.OK},
		{minusInf, minusInf, 0, api.OK},
		{minusInf, inf, 0xffe0000000000000, api.OK},
		{0xffefffffffffffff, greatest, 0xffdffffffffffffe, api.OK},
		{1, 0, 0, api.ErrRange},
		{1, minusZero, 0, api.ErrRange},
		{0, 0x8000000000000001, 0, api.ErrRange},
		{inf, minusInf, 0, api.ErrRange},
		{0x4000000000000000, one, 0, api.ErrRange},
		{0x7ff8000000000000, one, 0, api.ErrWhole},
		{one, 0x7ff0000000000001, 0, api.ErrWhole},
		{one, 0xfff8000000000000, 0, api.ErrWhole},
		{0xfff0000000000001, 0xfff0000000000001, 0, api.ErrWhole},
	} {
		if got, why := bits.Steps(c.x, c.y); got != c.want || why != c.why {
			t.Errorf("Steps(%x, %x) = %x, %d, want %x, %d", c.x, c.y, got, why, c.want, c.why)
		}
	}
}

// 1.2: Steps counts what Up does.
func TestStepsCountUp(t *testing.T) {
	for _, x := range []uint64{minusInf, 0x8010000000000003, 0x8000000000000005, minusZero, 0, 0x000ffffffffffffa, 0x3feffffffffffff9, 0x7feffffffffffff0} {
		y := x
		for n := range uint64(16) {
			if got, why := bits.Steps(x, y); got != n || why != api.OK {
				t.Errorf("Steps(%x, %x) = %d, %d, want %d", x, y, got, why, n)
			}
			y = bits.Up(y)
		}
	}
}

// 1.8
func TestStepsAreAdded(t *testing.T) {
	for _, x := range rising {
		for _, y := range rising {
			for _, z := range rising {
				a, why1 := bits.Steps(x, y)
				b, why2 := bits.Steps(y, z)
				c, why3 := bits.Steps(x, z)
				if why1 == api.OK && why2 == api.OK && (why3 != api.OK || a+b != c || a+b < a) {
					t.Errorf("Steps of %x, %x, %x: %x and %x are not %x, %d", x, y, z, a, b, c, why3)
				}
			}
		}
	}
}

// 1.3, 1.7
func TestOrder(t *testing.T) {
	for i, x := range rising {
		for j, y := range rising {
			want := 0
			if i < j {
				want = -1
			} else if i > j {
				want = 1
			}
			if got := bits.Order(x, y); got != want {
				t.Errorf("Order(%x, %x) = %d, want %d", x, y, got, want)
			}
		}
	}
}

// 1.7: sorted by Order, all words stand as the order of their words has it, those with bit 63 turned round and ahead.
func TestOrderIsTotal(t *testing.T) {
	list := words()
	slices.SortFunc(list, bits.Order)
	for i, y := range list[1:] {
		x := list[i]
		right := x <= y
		if x >= minusZero {
			right = y < minusZero || x >= y
		} else if y >= minusZero {
			right = false
		}
		if !right {
			t.Errorf("%x stands ahead of %x", x, y)
		}
		if got := bits.Order(y, x); got != -bits.Order(x, y) || (got == 0) != (x == y) {
			t.Errorf("Order(%x, %x) = %d", y, x, got)
		}
	}
}

// 1.3, 1.7
func TestLess(t *testing.T) {
	list := append(words()[:4000], rising...)
	for _, x := range rising {
		for _, y := range list {
			checkLess(t, x, y)
			checkLess(t, y, x)
		}
	}
}

func checkLess(t *testing.T, x, y uint64) {
	t.Helper()
	got := bits.Less(x, y)
	if got != (float(x) < float(y)) {
		t.Errorf("Less(%x, %x) = %t", x, y, got)
	}
	if isNumber(x) && isNumber(y) && float(x) != 0 && float(y) != 0 && got != (bits.Order(x, y) == -1) {
		t.Errorf("Less(%x, %x) = %t is not as Order", x, y, got)
	}
}

// 1.4
func TestLast(t *testing.T) {
	for x, want := range map[uint64]int{
		0: -1074, 1: -1074, 0x000fffffffffffff: -1074, leastNorm: -1074, 0x0020000000000000: -1073,
		one: -52, 0x3fefffffffffffff: -53, 0x4330000000000000: 0, 0x4340000000000000: 1, greatest: 971,
	} {
		for _, y := range []uint64{x, x | minusZero} {
			if got, why := bits.Last(y); got != want || why != api.OK {
				t.Errorf("Last(%x) = %d, %d, want %d", y, got, why, want)
			}
		}
	}
	for _, x := range words() {
		got, why := bits.Last(x)
		if !isFinite(x) {
			if got != 0 || why != api.ErrWhole {
				t.Errorf("Last(%x) = %d, %d", x, got, why)
			}
		} else if above := bits.Up(bits.Abs(x)); isFinite(above) && (why != api.OK || float(above)-float(bits.Abs(x)) != math.Ldexp(1, got)) {
			t.Errorf("Last(%x) = %d, %d", x, got, why)
		}
	}
}

// 1.4
func TestWholeAndOddAtTheEdges(t *testing.T) {
	for x, want := range map[uint64][2]bool{
		0:                  {true, false},
		1:                  {false, false},
		leastNorm:          {false, false},
		0x3fe0000000000000: {false, false}, // 1/2
		0x3fefffffffffffff: {false, false},
		one:                {true, true},
		0x3ff0000000000001: {false, false},
		0x3ff8000000000000: {false, false}, // 3/2
		0x4000000000000000: {true, false},
		0x4008000000000000: {true, true},   // 3
		0x4018000000000000: {true, false},  // 6
		0x432fffffffffffff: {false, false}, // 2^52 - 1/2
		0x4330000000000000: {true, false},  // 2^52
		0x4330000000000001: {true, true},
		0x433fffffffffffff: {true, true}, // 2^53 - 1
		0x4340000000000000: {true, false},
		0x4340000000000001: {true, false}, // 2^53 + 2
		greatest:           {true, false},
		inf:                {false, false},
		0x7ff0000000000001: {false, false},
		0x7ff8000000000000: {false, false},
		0x7fffffffffffffff: {false, false},
	} {
		for _, y := range []uint64{x, x | minusZero} {
			if got := [2]bool{bits.Whole(y), bits.Odd(y)}; got != want {
				t.Errorf("Whole, Odd of %x = %t, want %t", y, got, want)
			}
		}
	}
}

// 1.4
func TestWholeAndOdd(t *testing.T) {
	list := words()
	for n := range 3000 { // whole numbers, halves, quarters: few of the other words are
		list = append(list, math.Float64bits(float64(n)/4), math.Float64bits(-float64(n)/4))
	}
	for _, x := range list {
		whole, odd := false, false
		if isFinite(x) {
			v := new(big.Float).SetFloat64(float(x))
			n, _ := v.Int(nil)
			whole = v.IsInt()
			odd = whole && n.Bit(0) == 1
		}
		if bits.Whole(x) != whole || bits.Odd(x) != odd {
			t.Errorf("Whole, Odd of %x = %t, %t", x, bits.Whole(x), bits.Odd(x))
		}
	}
}
