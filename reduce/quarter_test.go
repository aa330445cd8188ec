package reduce_test

import (
	"math"
	"math/big"
	"reflect"
	"slices"
	"testing"

	"ulp/api"
	"ulp/consts"
	"ulp/dyad"
	"ulp/ival"
	"ulp/probe"
	"ulp/reduce"
)

const (
	all      = uint64(math.MaxUint64)
	most     = 1 << 14           // the farthest below 0 of a top of which a quarter must be told
	mostBits = api.MaxCore - 128 // to which it is told
)

var (
	wrongBits = []int{api.MinBits - 1, 1, 0, -1, -64, math.MinInt, mostBits + 1, api.MaxCore, api.MaxWork, math.MaxInt}
	someBits  = []int{api.MinBits, 9, 24, 53, 64, 100, 128, 160, 333}
	zeros     = []api.Dyad{{}, {Neg: true}, {Abs: api.Nat{}}, {Abs: api.Nat{0, 0}}, {Neg: true, Abs: api.Nat{0}, Exp: -api.MaxExp}, {Exp: api.MaxExp}}
)

// amounts are above 0 and below 2^1024: edges, powers of 2 with what lies beside them, forms that are not the one form, and some without a pattern.
func amounts() []api.Dyad {
	list := []api.Dyad{
		of(1, 0), of(3, 0), of(10, 0), of(3, -1), of(12, -4), {Abs: api.Nat{0, 1, 0}, Exp: -66}, of(1, -1), of(25, -5), of(101, -7), of(1, -1074), of(1, 1023), of(0x1fffffffffffff, 971), {Abs: probe.Filled(16, all)}, {Abs: probe.Filled(528, all), Exp: -api.MaxExp},
		sum(of(1, 1024), less(of(1, -api.MaxExp))), sum(of(1, -1), less(of(1, -api.MaxExp))), sum(of(1, -1), of(1, -api.MaxExp)), sum(of(1, 1023), of(1, -api.MaxExp)), of(1, -most), sum(of(1, -most), of(1, -api.MaxExp)), {Abs: append(probe.Power2(2000), 0), Exp: -1000},
		of(1, 100), of(6381956970095103, 797), of(5319372648326541, 416), // the last two: binary64 numbers that lie as near to multiples of pi / 2 as any
	}
	for n := -200; n < 1024; n += 31 {
		list = append(list, of(1, n), of(3, n-1), sum(of(1, n), of(1, n-60)), sum(of(1, n), less(of(1, n-60))), sum(of(1, n), of(1, n-500)))
	}
	for n := uint64(1); n < 40; n++ {
		list = append(list, of(n, 0), of(n, -3))
	}
	s := probe.Source(1)
	for range 60 {
		n := 1 + s.Below(5)
		list = append(list, api.Dyad{Abs: append(s.Natural(n), 1|s.Word()), Exp: s.Below(200) - 100 - 64*n})
	}
	for range 60 {
		d, _ := dyad.From(math.Float64bits(math.Abs(s.Float(s.Below(2046) - 1022))))
		list = append(list, d)
	}
	return list
}

// bothSigns are the numbers, and less each of them.
func bothSigns(list []api.Dyad) []api.Dyad {
	for _, d := range slices.Clone(list) {
		list = append(list, less(d))
	}
	return list
}

// P14.1
func TestQuarter(t *testing.T) {
	for i, d := range bothSigns(amounts()) {
		check(t, d, someBits[i%len(someBits)])
	}
}

// P14.1: the bits that are asked for from the fewest to the most.
func TestQuarterBits(t *testing.T) {
	list := []api.Dyad{of(1, 0), less(of(3, 0)), of(6381956970095103, 797), {Abs: probe.Filled(16, all)}, of(1, -most), sum(of(1, -1), of(1, -3000))}
	for _, d := range list {
		for _, p := range []int{1000, api.MaxBits, mostBits - 1, mostBits} {
			check(t, d, p)
		}
	}
	for p := api.MinBits; p <= 300; p++ {
		check(t, of(uint64(2*p+1), -4), p)
	}
}

// multiple is so many times pi / 4.
func multiple(n *big.Int) *big.Float {
	return fresh(mostOfPi).Mul(fresh(mostOfPi).SetInt(n), quarterPi())
}

// beside are the two numbers of so many bits between which a real number lies.
func beside(x *big.Float, bits uint) []api.Dyad {
	down, up := fresh(bits).SetMode(big.ToNegativeInf).Set(x), fresh(bits).SetMode(big.ToPositiveInf).Set(x)
	return []api.Dyad{number(down), number(up)}
}

// someMultiples are whole numbers from 1 to below 2^1024 times 4 / pi, even and odd ones.
func someMultiples() []*big.Int {
	var list []*big.Int
	for _, n := range []int64{1, 2, 3, 4, 5, 6, 7, 8, 99, 100, 101, 102} {
		list = append(list, big.NewInt(n))
	}
	for _, n := range []uint{60, 500, 1023} {
		for _, more := range []int64{0, 1, 2, 3} {
			power := new(big.Int).Lsh(big.NewInt(1), n)
			list = append(list, power.Add(power, big.NewInt(more)))
		}
	}
	return list
}

// P14.1: numbers that lie very near to multiples of pi / 2, and of pi / 4: ever more bits of pi are used.
func TestQuarterNear(t *testing.T) {
	for i, n := range someMultiples() {
		x := multiple(n)
		for _, bits := range []uint{20, 53, 60, 64, 100, 200, 500, 1000, 2000} {
			for _, d := range bothSigns(beside(x, bits)) {
				check(t, d, someBits[(i+int(bits))%len(someBits)])
			}
		}
	}
}

// P14.1: just 2^-2048 away from a multiple, and so with the most bits and the greatest numbers, a quarter must be told.
func TestQuarterNearest(t *testing.T) {
	away := of(1, -2048)
	for _, n := range someMultiples() {
		near := beside(multiple(n), uint(multiple(n).MantExp(nil)+2200))
		for _, d := range bothSigns([]api.Dyad{sum(near[0], less(away)), sum(near[1], away)}) {
			check(t, d, api.MinBits)
			check(t, d, mostBits)
		}
	}
}

// P14.1: nearer than that it is told rightly, or that it is hard.
func TestQuarterHard(t *testing.T) {
	for i, n := range someMultiples() {
		x := multiple(n)
		for j, below := range []int{2049, 2100, 3000, 5000, 7000, 8000, 9000, 15000, 30000, api.MaxExp} {
			p := []int{api.MinBits, 1000, mostBits}[(i+j)%3]
			for _, d := range beside(x, uint(x.MantExp(nil)+below)) {
				d.Neg = i%2 == 0
				k, v, why := reduce.Quarter(d, p)
				hard := why == api.ErrHard && k == 0 && reflect.DeepEqual(v, api.Ival{})
				if !hard && (why != api.OK || !right(k, v, d, p)) {
					t.Errorf("Quarter(%s, %d), 2^-%d from %v times pi / 4: %d, %s, error %d", show(d), p, below, n, k, showIval(v), why)
				}
			}
		}
	}
}

// P14.1: 0 in all its forms.
func TestQuarterZero(t *testing.T) {
	for _, zero := range zeros {
		for _, p := range []int{api.MinBits, 64, mostBits} {
			if n, v, why := reduce.Quarter(zero, p); n != 0 || why != api.OK || !reflect.DeepEqual(v, api.Ival{}) {
				t.Errorf("Quarter of 0 to %d bits = %d, %s, error %d", p, n, showIval(v), why)
			}
		}
	}
}

// P14.1: numbers whose tops are below -2^14 are told rightly, or refused.
func TestQuarterTiny(t *testing.T) {
	for _, d := range bothSigns([]api.Dyad{of(1, -most-1), sum(of(1, -most), less(of(1, -api.MaxExp))), of(1, -api.MaxExp), of(3, -api.MaxExp), of(3, -20000), {Abs: probe.Filled(200, all), Exp: -api.MaxExp}}) {
		for _, p := range []int{api.MinBits, 64, mostBits} {
			n, v, why := reduce.Quarter(d, p)
			many := why == api.ErrMany && n == 0 && reflect.DeepEqual(v, api.Ival{})
			if !many && (why != api.OK || !right(n, v, d, p)) {
				t.Errorf("Quarter(%s, %d) = %d, %s, error %d", show(d), p, n, showIval(v), why)
			}
		}
	}
}

func refusedQuarter(t *testing.T, d api.Dyad, p int, want api.Errno) {
	t.Helper()
	if n, v, why := reduce.Quarter(d, p); why != want || n != 0 || !reflect.DeepEqual(v, api.Ival{}) {
		t.Errorf("Quarter of %d words, exponent %d, to %d bits: %d, error %d, want %d", len(d.Abs), d.Exp, p, n, why, want)
	}
}

// tooGreat are from 2^1024 on; of some the one form has no room.
func tooGreat() []api.Dyad {
	return []api.Dyad{of(1, 1024), sum(of(1, 1024), of(1, -api.MaxExp)), {Abs: probe.Power2(1024)}, {Abs: probe.Power2(2024), Exp: -1000}, of(3, 2000), of(1, api.MaxExp), of(2, api.MaxExp), {Abs: api.Nat{0, 4, 0}, Exp: api.MaxExp}, {Abs: probe.Filled(api.MaxLimbs, all)}, {Abs: probe.Filled(api.MaxLimbs, all), Exp: -api.MaxExp}, {Abs: probe.Filled(529, all), Exp: -api.MaxExp}}
}

// P14.1
func TestQuarterTooGreat(t *testing.T) {
	for _, d := range bothSigns(tooGreat()) {
		for _, p := range []int{api.MinBits, 64, mostBits} {
			refusedQuarter(t, d, p, api.ErrMany)
		}
	}
}

// P14.1: what is wrong by its bits or by itself is refused for that first.
func TestQuarterWrong(t *testing.T) {
	for _, p := range wrongBits {
		for _, d := range bothSigns(slices.Concat(zeros, tooGreat(), []api.Dyad{of(1, 0), of(3, -2), of(1, -api.MaxExp)})) {
			refusedQuarter(t, d, p, api.ErrRange)
		}
	}
	for _, d := range bothSigns(probe.WrongNumbers()) {
		for _, p := range append([]int{api.MinBits, 64, mostBits}, wrongBits...) {
			refusedQuarter(t, d, p, api.ErrRange)
		}
	}
}

// P14.5: all of what is left is at most pi / 4 in its amount, however few bits of it are asked for.
func TestQuarterLeft(t *testing.T) {
	known, _ := consts.Const(api.ConstPi, 400)
	bound, _ := ival.Scale(known, -2)
	list := amounts()
	for _, n := range someMultiples() {
		for _, bits := range []uint{20, 53, 60, 1000} {
			list = append(list, beside(multiple(n), bits)...)
		}
	}
	for i, d := range bothSigns(list) {
		p := someBits[i%len(someBits)]
		if _, v, why := reduce.Quarter(d, p); why != api.OK || !ival.Within(v, api.Ival{Lo: less(bound.Hi), Hi: bound.Hi}) {
			t.Errorf("Quarter(%s, %d) leaves %s, error %d", show(d), p, showIval(v), why)
		}
	}
}

// P14.7
func TestQuarterOdd(t *testing.T) {
	for i, d := range amounts() {
		p := someBits[i%len(someBits)]
		n, v, why := reduce.Quarter(d, p)
		m, w, whyToo := reduce.Quarter(less(d), p)
		turned, _ := ival.Neg(w)
		if why != api.OK || whyToo != api.OK || m != (4-n)%4 || !reflect.DeepEqual(v, turned) {
			t.Errorf("Quarter(%s, %d) = %d, %s, of less that %d, %s", show(d), p, n, showIval(v), m, showIval(w))
		}
	}
}

// P14.9
func TestRightAngles(t *testing.T) {
	for n := range int64(1000) {
		x := beside(multiple(big.NewInt(2*n+2)), 60)[0]
		for _, p := range []int{api.MinBits, 64} {
			k, v, why := reduce.Quarter(x, p)
			if why != api.OK || k != int(n+1)%4 || above(v.Hi, api.Dyad{}) {
				t.Errorf("Quarter(%s, %d), just below %d right angles: %d, %s, error %d", show(x), p, n+1, k, showIval(v), why)
			}
		}
	}
}

func above(a, b api.Dyad) bool {
	order, _ := dyad.Cmp(a, b)
	return order > 0
}
