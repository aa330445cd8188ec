package logfam_test

import (
	"maps"
	"math"
	"math/big"
	"slices"
	"testing"

	"ulp/bits"
	"ulp/logfam"
	"ulp/probe"
)

// powersOf10 are those that a binary64 is.
func powersOf10() map[uint64]int {
	list := map[uint64]int{}
	power := big.NewInt(1)
	for n := range 400 {
		if x, how := new(big.Float).SetInt(power).Float64(); how == big.Exact && !math.IsInf(x, 0) {
			list[math.Float64bits(x)] = n
		}
		power.Mul(power, big.NewInt(10))
	}
	return list
}

// powersOf2 are those that a binary64 is.
func powersOf2() map[uint64]int {
	list := map[uint64]int{}
	for n := -1074; n <= 1023; n++ {
		list[math.Float64bits(math.Ldexp(1, n))] = n
	}
	return list
}

// checkWhole holds Whole against the powers.
func checkWhole(t *testing.T, base int, x uint64, powers map[uint64]int) {
	t.Helper()
	want, known := powers[x]
	if n, is := logfam.Whole(base, x); n != want || is != known {
		t.Errorf("Whole(%d, %x) = %d, %v, want %d, %v", base, x, n, is, want, known)
	}
}

// tried are all powers of 2 and of 10, with their neighbours and with what they are less than 0; multiples of few bits; numbers without a pattern; what is not finite.
func tried() []uint64 {
	list := slices.Concat(probe.Floats(), notFinite)
	for x := range powersOf2() {
		list = append(list, x)
	}
	for n := range 40 { // from 10^23 on, no power of 10 is a binary64
		list = append(list, math.Float64bits(math.Pow(10, float64(n))), math.Float64bits(math.Pow(10, float64(-n))), math.Float64bits(math.Pow(5, float64(n))))
	}
	for n := range 2000 {
		list = append(list, math.Float64bits(float64(n)), math.Float64bits(float64(n)/16), math.Float64bits(math.Ldexp(float64(n), n/2)))
	}
	for _, x := range slices.Clone(list) {
		list = append(list, x+1, x-1, bits.Neg(x))
	}
	return list
}

// P16.3
func TestWhole(t *testing.T) {
	twos, tens := powersOf2(), powersOf10()
	if len(twos) != 2098 || len(tens) != 23 {
		t.Fatalf("%d powers of 2, %d of 10", len(twos), len(tens))
	}
	for _, x := range slices.Concat(tried(), slices.Collect(maps.Keys(tens))) {
		checkWhole(t, 2, x, twos)
		checkWhole(t, 10, x, tens)
	}
}

// P16.3: of other bases nothing is told, of e neither.
func TestWholeOfOtherBases(t *testing.T) {
	for _, base := range append(slices.Clone(wrongBases), 0) {
		for _, x := range slices.Concat(aboveMinusOne(), notFinite, []uint64{math.Float64bits(3), math.Float64bits(5), math.Float64bits(25), math.Float64bits(1000)}) {
			checkWhole(t, base, x, nil)
		}
	}
}
