package expcore_test

import (
	"math/big"
	"reflect"
	"slices"
	"strconv"
	"testing"

	"ulp/api"
	"ulp/ival"
)

// float is a dyadic number as the tests reckon with it, exactly.
func float(d api.Dyad) *big.Float {
	n := new(big.Int)
	for _, w := range slices.Backward(d.Abs) {
		n.Lsh(n, 64).Or(n, new(big.Int).SetUint64(w))
	}
	if d.Neg {
		n.Neg(n)
	}
	return new(big.Float).SetMantExp(new(big.Float).SetInt(n), d.Exp)
}

func fresh(prec uint) *big.Float { return new(big.Float).SetPrec(prec) }

// powerOfE is e^t, right to p bits and a hundred more. The argument is made smaller than the program makes it, and e^t itself is squared.
func powerOfE(t api.Dyad, p uint) *big.Float {
	const halvings = 40
	prec := p + 200
	x := fresh(prec).SetMantExp(fresh(prec).Set(float(t)), -halvings)
	sum, term := fresh(prec).SetInt64(1), fresh(prec).SetInt64(1)
	for n := int64(1); term.Sign() != 0 && term.MantExp(nil) > -int(prec); n++ {
		term.Mul(term, x)
		term.Quo(term, fresh(prec).SetInt64(n))
		sum.Add(sum, term)
	}
	for range halvings {
		sum.Mul(sum, sum)
	}
	return sum
}

// lessOne is e^t - 1, right to p bits and a hundred more: e^t is reckoned to as many bits more as 1 hides.
func lessOne(t api.Dyad, p uint) *big.Float {
	hidden := max(0, -float(t).MantExp(nil))
	power := powerOfE(t, p+uint(hidden))
	return power.Sub(power, big.NewFloat(1))
}

// call is one of the two, with what it encloses.
type call struct {
	name  string
	of    func(api.Dyad, int) (api.Ival, api.Errno)
	value func(api.Dyad, uint) *big.Float
}

// isForm tells whether an enclosure is right, and in its one form.
func isForm(v api.Ival) bool {
	form, why := ival.Canon(v)
	return why == api.OK && reflect.DeepEqual(form, v)
}

// narrow tells whether ends of one sign lie apart by at most 2^-p times the lesser amount.
func narrow(v api.Ival, p int) bool {
	lo, hi := float(v.Lo), float(v.Hi)
	near := lo
	if lo.Sign() < 0 {
		near = new(big.Float).Neg(hi)
	}
	width := fresh(1<<17).Sub(hi, lo)
	return lo.Sign()*hi.Sign() > 0 && width.SetMantExp(width, p).Cmp(near) <= 0
}

// has tells whether a number lies in an enclosure, but for as little as the tests do not know of it.
func has(v api.Ival, x *big.Float, p uint) bool {
	little := fresh(64).SetMantExp(fresh(64).Abs(x), -int(p)-100)
	prec := x.Prec() + 200
	low, high := fresh(prec).Sub(x, little), fresh(prec).Add(x, little)
	return float(v.Lo).Cmp(high) <= 0 && float(v.Hi).Cmp(low) >= 0
}

// check holds what a call answers against the value.
func (c call) check(t *testing.T, d api.Dyad, p int) {
	t.Helper()
	v, why := c.of(d, p)
	switch {
	case why != api.OK:
		t.Errorf("%s(%s, %d): error %d", c.name, show(d), p, why)
	case !isForm(v):
		t.Errorf("%s(%s, %d) is not in its one form", c.name, show(d), p)
	case !narrow(v, p):
		t.Errorf("%s(%s, %d) is too wide: %s to %s", c.name, show(d), p, show(v.Lo), show(v.Hi))
	case !has(v, c.value(d, uint(p)), uint(p)):
		t.Errorf("%s(%s, %d) has the value not in it: %s to %s", c.name, show(d), p, show(v.Lo), show(v.Hi))
	}
}

// refused: that error, and nothing else.
func (c call) refused(t *testing.T, d api.Dyad, p int, want api.Errno) {
	t.Helper()
	if v, why := c.of(d, p); why != want || !reflect.DeepEqual(v, api.Ival{}) {
		t.Errorf("%s of %d words, exponent %d, to %d bits: error %d, want %d", c.name, len(d.Abs), d.Exp, p, why, want)
	}
}

func show(d api.Dyad) string {
	return float(d).Text('g', 30) + " (" + strconv.Itoa(len(d.Abs)) + " words)"
}
