package sincore_test

import (
	"math/big"
	"reflect"
	"slices"
	"strconv"
	"testing"

	"ulp/api"
	"ulp/dyad"
	"ulp/ival"
	"ulp/sincore"
)

// float is a dyadic number as the tests reckon with it, exactly.
func float(d api.Dyad) *big.Float {
	n := new(big.Int)
	for _, w := range slices.Backward(d.Abs) {
		n.Lsh(n, 64).Or(n, new(big.Int).SetUint64(w))
	}
	if d.Neg {
		n.Neg(n)
	}
	return new(big.Float).SetMantExp(new(big.Float).SetInt(n), d.Exp)
}

func fresh(prec uint) *big.Float { return new(big.Float).SetPrec(prec) }

// series is x - x^3 / 6 + x^5 / 120 and so on, of an x near 0.
func series(x *big.Float) *big.Float {
	prec := x.Prec()
	sum, term := fresh(prec), fresh(prec).Set(x)
	square := fresh(prec).Mul(x, x)
	for n := int64(1); ; n += 2 {
		if term.Sign() == 0 || n > 1 && term.MantExp(nil) < sum.MantExp(nil)-int(prec) {
			return sum
		}
		sum.Add(sum, term)
		term.Mul(term, square)
		term.Quo(term.Neg(term), fresh(prec).SetInt64((n+1)*(n+2)))
	}
}

// sincos are the sine and the cosine of t, right to p bits and a hundred more. Unlike the program it has the angle divided by 3 again and again, and the cosine made of the sine.
func sincos(t api.Dyad, p int) (sine, cosine *big.Float) {
	const thirds = 12
	prec := uint(p) + 300
	x := fresh(prec).Set(float(t))
	sine = series(x)
	if x.MantExp(nil) > -40 {
		for range thirds {
			x.Quo(x, fresh(prec).SetInt64(3))
		}
		sine = series(x)
		for range thirds { // the sine of three times the angle is 3 s - 4 s^3
			cube := fresh(prec).Mul(sine, sine)
			cube.Mul(cube, sine)
			sine.Sub(sine.Mul(sine, fresh(prec).SetInt64(3)), cube.Mul(cube, fresh(prec).SetInt64(4)))
		}
	}
	square := fresh(prec).Mul(sine, sine)
	return sine, fresh(prec).Sqrt(fresh(prec).Sub(fresh(prec).SetInt64(1), square))
}

// isForm tells whether an interval is right, and in its one form.
func isForm(v api.Ival) bool {
	form, why := ival.Canon(v)
	return why == api.OK && reflect.DeepEqual(form, v)
}

// little is what the tests do not know of a number.
func little(x *big.Float, p int) *big.Float {
	return fresh(64).SetMantExp(fresh(64).Abs(x), -p-100)
}

// atMost tells whether an end is at most a real number; atLeast, whether at least.
func atMost(d api.Dyad, x *big.Float, p int) bool {
	return float(d).Cmp(fresh(x.Prec()+200).Add(x, little(x, p))) <= 0
}

func atLeast(d api.Dyad, x *big.Float, p int) bool {
	return float(d).Cmp(fresh(x.Prec()+200).Sub(x, little(x, p))) >= 0
}

// nearTo tells whether an end lies within 2^-p times its amount of a real number.
func nearTo(d api.Dyad, x *big.Float, p int) bool {
	away := fresh(x.Prec()+200).Sub(float(d), x)
	bound := fresh(64).SetMantExp(fresh(64).Abs(float(d)), -p)
	return away.Abs(away).Cmp(bound.Add(bound, little(x, p))) <= 0
}

// right tells whether v is an enclosure of a real number at p bits.
func right(v api.Ival, x *big.Float, p int) bool {
	return isForm(v) && ival.Narrow(v, p) && atMost(v.Lo, x, p) && atLeast(v.Hi, x, p)
}

// check holds what Sin and Cos answer against the sine and the cosine.
func check(t *testing.T, d api.Dyad, p int) {
	t.Helper()
	sine, cosine := sincos(d, p)
	if v, why := sincore.Sin(d, p); why != api.OK || !right(v, sine, p) {
		t.Errorf("Sin(%s, %d) = %s, error %d", show(d), p, showIval(v), why)
	}
	if v, why := sincore.Cos(d, p); why != api.OK || !right(v, cosine, p) {
		t.Errorf("Cos(%s, %d) = %s, error %d", show(d), p, showIval(v), why)
	}
}

// rightOrMany: what is far may be refused, but if it is not, it is told rightly.
func rightOrMany(t *testing.T, d api.Dyad, p int) {
	t.Helper()
	sine, cosine := sincos(d, p)
	sound := func(v api.Ival, why api.Errno, x *big.Float) bool {
		return why == api.ErrMany && reflect.DeepEqual(v, api.Ival{}) || why == api.OK && right(v, x, p)
	}
	if v, why := sincore.Sin(d, p); !sound(v, why, sine) {
		t.Errorf("Sin(%s, %d) = %s, error %d", show(d), p, showIval(v), why)
	}
	if v, why := sincore.Cos(d, p); !sound(v, why, cosine) {
		t.Errorf("Cos(%s, %d) = %s, error %d", show(d), p, showIval(v), why)
	}
}

func of(n uint64, exp int) api.Dyad { return api.Dyad{Abs: api.Nat{n}, Exp: exp} }

func less(d api.Dyad) api.Dyad {
	d.Neg = !d.Neg
	return d
}

// sum is that of two numbers, where it has room; times, the product.
func sum(a, b api.Dyad) api.Dyad {
	c, why := dyad.Add(a, b)
	if why != api.OK {
		panic("a sum without room")
	}
	return c
}

func times(a, b api.Dyad) api.Dyad {
	c, why := dyad.Mul(a, b)
	if why != api.OK {
		panic("a product without room")
	}
	return c
}

func show(d api.Dyad) string {
	return float(d).Text('g', 30) + " (" + strconv.Itoa(len(d.Abs)) + " words)"
}

func showIval(v api.Ival) string { return show(v.Lo) + " to " + show(v.Hi) }
