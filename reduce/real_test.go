package reduce_test

import (
	"math/big"
	"reflect"
	"slices"
	"strconv"
	"sync"
	"testing"

	"ulp/api"
	"ulp/dyad"
	"ulp/ival"
	"ulp/reduce"
)

// whole is the natural of a number's amount.
func whole(a api.Nat) *big.Int {
	n := new(big.Int)
	for _, w := range slices.Backward(a) {
		n.Lsh(n, 64).Or(n, new(big.Int).SetUint64(w))
	}
	return n
}

// float is a dyadic number as the tests reckon with it, exactly.
func float(d api.Dyad) *big.Float {
	n := whole(d.Abs)
	if d.Neg {
		n.Neg(n)
	}
	return new(big.Float).SetMantExp(new(big.Float).SetInt(n), d.Exp)
}

// number is a float that is finite, as a dyadic number.
func number(x *big.Float) api.Dyad {
	if x.Sign() == 0 {
		return api.Dyad{}
	}
	size := int(x.MinPrec())
	n, _ := new(big.Float).SetMantExp(x, size-x.MantExp(nil)).Int(nil)
	d := api.Dyad{Neg: x.Sign() < 0, Exp: x.MantExp(nil) - size}
	for n.Abs(n); n.Sign() > 0; n.Rsh(n, 64) {
		d.Abs = append(d.Abs, new(big.Int).And(n, new(big.Int).SetUint64(all)).Uint64())
	}
	return d
}

func fresh(prec uint) *big.Float { return new(big.Float).SetPrec(prec) }

// mostOfPi is to how many bits the tests know pi: more than the program.
const mostOfPi = 36000

// pi is that, by Euler's series: twice the sum of the terms of which each is the one ahead times n / (2 n + 1).
var pi = sync.OnceValue(func() *big.Float {
	const spare = 64
	term := new(big.Int).Lsh(big.NewInt(2), mostOfPi+spare)
	sum := new(big.Int)
	for n := int64(1); term.Sign() > 0; n++ {
		sum.Add(sum, term)
		term.Mul(term, big.NewInt(n))
		term.Quo(term, big.NewInt(2*n+1))
	}
	return new(big.Float).SetMantExp(fresh(mostOfPi).SetInt(sum), -mostOfPi-spare)
})

// halfPi is a right angle; quarterPi half of that.
func halfPi() *big.Float { return new(big.Float).SetMantExp(pi(), -1) }

func quarterPi() *big.Float { return new(big.Float).SetMantExp(pi(), -2) }

// nearestTo is the whole number nearest to a number that lies at no half.
func nearestTo(x *big.Float) *big.Int {
	half := fresh(x.Prec()+2000).Add(x, big.NewFloat(0.5))
	n, how := half.Int(nil)
	if half.Sign() < 0 && how != big.Exact {
		n.Sub(n, big.NewInt(1))
	}
	return n
}

// quarter is how many right angles lie next to x, by 4, and what is left, to some thousands of bits behind the point.
func quarter(x api.Dyad) (int, *big.Float) {
	exact := fresh(mostOfPi + 2000).Set(float(x))
	n := nearestTo(fresh(mostOfPi).Quo(exact, halfPi()))
	all := fresh(mostOfPi+2000).Mul(fresh(mostOfPi+2000).SetInt(n), halfPi())
	return int(new(big.Int).And(n, big.NewInt(3)).Int64()), exact.Sub(exact, all)
}

// isForm tells whether an interval is right, and in its one form.
func isForm(v api.Ival) bool {
	form, why := ival.Canon(v)
	return why == api.OK && reflect.DeepEqual(form, v)
}

// has tells whether what is left lies in an enclosure, but for as little as the tests do not know of it.
func has(v api.Ival, x *big.Float) bool {
	little := fresh(64)
	if x.Sign() != 0 {
		little.SetMantExp(big.NewFloat(1), -mostOfPi+1100)
	}
	low, high := fresh(x.Prec()).Sub(x, little), fresh(x.Prec()).Add(x, little)
	return float(v.Lo).Cmp(high) <= 0 && float(v.Hi).Cmp(low) >= 0
}

// right tells whether a number by 4 and an enclosure to p bits are those of x.
func right(n int, v api.Ival, x api.Dyad, p int) bool {
	want, rest := quarter(x)
	return n == want && isForm(v) && ival.Narrow(v, p) && has(v, rest)
}

// check holds what Quarter answers against it.
func check(t *testing.T, x api.Dyad, p int) {
	t.Helper()
	if n, v, why := reduce.Quarter(x, p); why != api.OK || !right(n, v, x, p) {
		t.Errorf("Quarter(%s, %d) = %d, %s, error %d", show(x), p, n, showIval(v), why)
	}
}

func of(n uint64, exp int) api.Dyad { return api.Dyad{Abs: api.Nat{n}, Exp: exp} }

func less(d api.Dyad) api.Dyad {
	d.Neg = !d.Neg
	return d
}

// sum is that of two numbers, where it has room.
func sum(a, b api.Dyad) api.Dyad {
	c, why := dyad.Add(a, b)
	if why != api.OK {
		panic("a sum without room")
	}
	return c
}

func show(d api.Dyad) string {
	return float(d).Text('g', 30) + " (" + strconv.Itoa(len(d.Abs)) + " words, exponent " + strconv.Itoa(d.Exp) + ")"
}

func showIval(v api.Ival) string { return show(v.Lo) + " to " + show(v.Hi) }
