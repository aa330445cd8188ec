package alg_test

import (
	"math"
	"math/big"
	"testing"

	"ulp/alg"
	"ulp/api"
)

// The tests reckon with whole numbers of units of 2^-scale: all binary64 numbers and all points of change are such ones.
const scale = 1080

// unit is 1 in these units, to the power of n.
func unit(n int) *big.Int { return new(big.Int).Lsh(big.NewInt(1), uint(n*scale)) }

// units is how many of them a binary64 from 0 on has; infinity has as many as the number that would come next.
func units(x uint64) *big.Int {
	exp, count := int(x>>52), x&(1<<52-1)
	if exp > 0 {
		count |= 1 << 52
		exp--
	}
	return new(big.Int).Lsh(new(big.Int).SetUint64(count), uint(exp-1074+scale))
}

// middle is the point of change between a number from 0 on and the next one.
func middle(x uint64) *big.Int {
	sum := new(big.Int).Add(units(x), units(x+1))
	return sum.Rsh(sum, 1)
}

// against holds a number of units against a real number that is meant: -1, 0, 1, as it lies below, is it, lies above.
type against func(w *big.Int) int

func product(factors ...*big.Int) *big.Int {
	all := big.NewInt(1)
	for _, f := range factors {
		all.Mul(all, f)
	}
	return all
}

func cubeRoot(x uint64) against {
	cube := product(units(x), unit(2))
	return func(w *big.Int) int { return product(w, w, w).Cmp(cube) }
}

func squareRoot(x uint64) against {
	square := product(units(x), unit(1))
	return func(w *big.Int) int { return product(w, w).Cmp(square) }
}

func inverseRoot(x uint64) against {
	return func(w *big.Int) int { return product(w, w, units(x)).Cmp(unit(3)) }
}

func distance(x, y uint64) against {
	square := product(units(x), units(x))
	square.Add(square, product(units(y), units(y)))
	return func(w *big.Int) int { return product(w, w).Cmp(square) }
}

// nearest finds what a real number is rounded to, by halving the ladder of all numbers from 0 on: neither a root nor a quotient is taken.
func nearest(at against) api.Result {
	low, high := uint64(0), infinity // low is not above the number, high is, or there is none above
	for high-low > 1 {
		if w := low + (high-low)/2; at(units(w)) <= 0 {
			low = w
		} else {
			high = w
		}
	}
	if at(units(low)) == 0 {
		return api.Result{Bits: low}
	}
	r := api.Result{Bits: low, Flags: api.Inexact}
	if side := at(middle(low)); side < 0 || side == 0 && low%2 == 1 {
		r.Bits++
	}
	if r.Bits == infinity {
		r.Flags |= api.Overflow
	}
	if isTiny(at) {
		r.Flags |= api.Underflow
	}
	return r
}

// isTiny: below 2^-1022 - 2^-1076.
func isTiny(at against) bool {
	bound := new(big.Int).Lsh(big.NewInt(1<<54-1), scale-1076)
	return at(bound) > 0
}

// below is a result with the other sign.
func below(r api.Result) api.Result {
	r.Bits ^= minusZero
	return r
}

// call is a function of one number.
type call func(uint64) (api.Result, api.Errno)

// same: what is answered is that, and no error.
func same(t *testing.T, what string, f call, x uint64, want api.Result) {
	t.Helper()
	if r, why := f(x); why != api.OK || r != want {
		t.Errorf("%s(%x) = %x, error %d, want %x", what, x, r, why, want)
	}
}

// refused: that error, and nothing else.
func refused(t *testing.T, what string, f call, x uint64, want api.Errno) {
	t.Helper()
	if r, why := f(x); why != want || r != (api.Result{}) {
		t.Errorf("%s(%x) = %x, error %d, want %d alone", what, x, r, why, want)
	}
}

// checkHypot holds what Hypot answers against the distance: with each sign of both, and turned round.
func checkHypot(t *testing.T, x, y uint64) {
	t.Helper()
	want := nearest(distance(x, y))
	for i := range uint64(8) {
		a, b := x|i%2<<63, y|i/2%2<<63
		if i >= 4 {
			a, b = b, a
		}
		if r, why := alg.Hypot(a, b); why != api.OK || r != want {
			t.Errorf("Hypot(%x, %x) = %x, error %d, want %x", a, b, r, why, want)
		}
	}
}

func floatBits(x float64) uint64 { return math.Float64bits(x) }
