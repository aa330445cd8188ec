package dd_test

import (
	"math"
	"math/big"
	"testing"

	"ulp/api"
	"ulp/dd"
)

// close tells whether a pair is rounded to its Hi, and differs from the exact value by at most 2^-102 times the amount of this.
func close(got api.Pair, exact *big.Float) bool {
	off := new(big.Float).Sub(worth(got), exact)
	bound := new(big.Float).Mul(off.Abs(off), exactly(0x1p102))
	return got.Hi == rounded(worth(got)) && bound.Cmp(new(big.Float).Abs(exact)) <= 0
}

// P8.5
func TestHowNear(t *testing.T) {
	for _, of := range couples() {
		a, b := worth(of[0]), worth(of[1])
		exact := exactly(0)
		if s, _ := dd.Add(of[0], of[1]); !close(s, exact.Add(a, b)) {
			t.Errorf("Add(%x, %x) = %x", of[0], of[1], s)
		}
		if s, _ := dd.Sub(of[0], of[1]); !close(s, exact.Sub(a, b)) {
			t.Errorf("Sub(%x, %x) = %x", of[0], of[1], s)
		}
		if p, _ := dd.Mul(of[0], of[1]); !close(p, exact.Mul(a, b)) {
			t.Errorf("Mul(%x, %x) = %x", of[0], of[1], p)
		}
		if b.Sign() == 0 {
			continue
		}
		if q, _ := dd.Div(of[0], of[1]); !close(q, exact.Quo(a, b)) { // (wide bits of the quotient leave the bound as it is)
			t.Errorf("Div(%x, %x) = %x", of[0], of[1], q)
		}
	}
}

// P8.7
func TestTurned(t *testing.T) {
	for _, of := range couples() {
		a, b := of[0], of[1]
		sum, _ := dd.Add(a, b)
		product, _ := dd.Mul(a, b)
		expect(t, "Add", dd.Add, b, a, sum)
		expect(t, "Mul", dd.Mul, b, a, product)
		expect(t, "Add", dd.Add, less(a), less(b), less(sum))
		expect(t, "Mul", dd.Mul, less(a), b, less(product))
		expect(t, "Mul", dd.Mul, a, less(b), less(product))
		expect(t, "Sub", dd.Sub, a, a, api.Pair{})
		expect(t, "Add", dd.Add, less(b), b, api.Pair{})
	}
}

// P8.6
func TestMany(t *testing.T) {
	for _, l := range lists() {
		got, why := dd.Sum(l)
		exact, amounts := exactly(0), exactly(0)
		for _, x := range l {
			exact.Add(exact, exactly(x))
			amounts.Add(amounts, exactly(math.Abs(x)))
		}
		off := new(big.Float).Sub(worth(got), exact)
		off.Abs(off).Mul(off, exactly(0x1p101))
		if why != api.OK || off.Cmp(amounts.Mul(amounts, exactly(float64(len(l))))) > 0 {
			t.Errorf("Sum of %d floats = %x, error %d", len(l), got, why)
		}
	}
}
