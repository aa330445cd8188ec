package logcore_test

import (
	"math/big"
	"reflect"
	"slices"
	"strconv"
	"testing"

	"ulp/api"
	"ulp/dyad"
	"ulp/ival"
	"ulp/logcore"
)

// float is a dyadic number as the tests reckon with it, exactly.
func float(d api.Dyad) *big.Float {
	n := new(big.Int)
	for _, w := range slices.Backward(d.Abs) {
		n.Lsh(n, 64).Or(n, new(big.Int).SetUint64(w))
	}
	if d.Neg {
		n.Neg(n)
	}
	return new(big.Float).SetMantExp(new(big.Float).SetInt(n), d.Exp)
}

func fresh(prec uint) *big.Float { return new(big.Float).SetPrec(prec) }

// series is x - x^2 / 2 + x^3 / 3 and so on, of an x near 0.
func series(x *big.Float, prec uint) *big.Float {
	sum, power := fresh(prec), fresh(prec).SetInt64(1)
	for n := int64(1); ; n++ {
		power.Mul(power, x)
		term := fresh(prec).Quo(power, fresh(prec).SetInt64(n))
		if term.Sign() == 0 || n > 1 && term.MantExp(nil) < sum.MantExp(nil)-int(prec) {
			return sum
		}
		if n%2 == 0 {
			term.Neg(term)
		}
		sum.Add(sum, term)
	}
}

// logarithm is that of t, right to p bits and a hundred more. Unlike the program it takes roots of t itself, and has no power of 2 taken off.
func logarithm(t api.Dyad, p uint) *big.Float {
	const roots = 24
	prec := p + 300
	exact := float(t)
	x := fresh(exact.Prec()+1<<16).Sub(exact, big.NewFloat(1))
	if x.Sign() == 0 || x.MantExp(nil) < -20 {
		return series(fresh(prec).Set(x), prec)
	}
	root := fresh(prec).Set(exact)
	for range roots {
		root.Sqrt(root)
	}
	sum := series(root.Sub(root, big.NewFloat(1)), prec)
	return sum.SetMantExp(sum, roots)
}

// isForm tells whether an interval is right, and in its one form.
func isForm(v api.Ival) bool {
	form, why := ival.Canon(v)
	return why == api.OK && reflect.DeepEqual(form, v)
}

// little is what the tests do not know of a logarithm.
func little(x *big.Float, p int) *big.Float {
	return fresh(64).SetMantExp(fresh(64).Abs(x), -p-100)
}

// atMost tells whether an end is at most a logarithm; atLeast, whether at least.
func atMost(d api.Dyad, x *big.Float, p int) bool {
	return float(d).Cmp(fresh(x.Prec()+200).Add(x, little(x, p))) <= 0
}

func atLeast(d api.Dyad, x *big.Float, p int) bool {
	return float(d).Cmp(fresh(x.Prec()+200).Sub(x, little(x, p))) >= 0
}

// right tells whether v is an enclosure of the logarithm of t at p bits.
func right(v api.Ival, t api.Dyad, p int) bool {
	x := logarithm(t, uint(p))
	return isForm(v) && ival.Narrow(v, p) && atMost(v.Lo, x, p) && atLeast(v.Hi, x, p)
}

// checkLog holds what Log answers against the logarithm.
func checkLog(t *testing.T, d api.Dyad, p int) {
	t.Helper()
	if v, why := logcore.Log(d, p); why != api.OK || !right(v, d, p) {
		t.Errorf("Log(%s, %d) = %s, error %d", show(d), p, showIval(v), why)
	}
}

// checkLog1p likewise.
func checkLog1p(t *testing.T, x api.Dyad, p int) {
	t.Helper()
	if v, why := logcore.Log1p(x, p); why != api.OK || !right(v, sum(x, of(1, 0)), p) {
		t.Errorf("Log1p(%s, %d) = %s, error %d", show(x), p, showIval(v), why)
	}
}

// rightOrMany: what is far may be refused, but if it is not, it is told rightly.
func rightOrMany(t *testing.T, v api.Ival, why api.Errno, d api.Dyad, p int) {
	t.Helper()
	refused := why == api.ErrMany && reflect.DeepEqual(v, api.Ival{})
	if !refused && (why != api.OK || !right(v, d, p)) {
		t.Errorf("of %s at %d bits: %s, error %d", show(d), p, showIval(v), why)
	}
}

func of(n uint64, exp int) api.Dyad { return api.Dyad{Abs: api.Nat{n}, Exp: exp} }

func less(d api.Dyad) api.Dyad {
	d.Neg = !d.Neg
	return d
}

// sum is that of two numbers, where it has room.
func sum(a, b api.Dyad) api.Dyad {
	c, why := dyad.Add(a, b)
	if why != api.OK {
		panic("a sum without room")
	}
	return c
}

func show(d api.Dyad) string {
	return float(d).Text('g', 30) + " (" + strconv.Itoa(len(d.Abs)) + " words)"
}

func showIval(v api.Ival) string { return show(v.Lo) + " to " + show(v.Hi) }
