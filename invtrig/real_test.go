package invtrig_test

import (
	"math/big"
	"reflect"
	"slices"
	"strconv"
	"sync"
	"testing"

	"ulp/api"
	"ulp/dyad"
	"ulp/invtrig"
	"ulp/ival"
)

// float is a dyadic number as the tests reckon with it, exactly.
func float(d api.Dyad) *big.Float {
	n := new(big.Int)
	for _, w := range slices.Backward(d.Abs) {
		n.Lsh(n, 64).Or(n, new(big.Int).SetUint64(w))
	}
	if d.Neg {
		n.Neg(n)
	}
	return new(big.Float).SetMantExp(new(big.Float).SetInt(n), d.Exp)
}

func fresh(prec uint) *big.Float { return new(big.Float).SetPrec(prec) }

func half(x *big.Float) *big.Float { return x.SetMantExp(x, -1) }

func twice(x *big.Float) *big.Float { return x.SetMantExp(x, 1) }

// mostOfPi is to how many bits the tests know pi.
const mostOfPi = 3000

// pi is that, by Euler's series: twice the sum of the terms of which each is the one ahead times n / (2 n + 1).
var pi = sync.OnceValue(func() *big.Float {
	const spare = 64
	term := new(big.Int).Lsh(big.NewInt(2), mostOfPi+spare)
	sum := new(big.Int)
	for n := int64(1); term.Sign() > 0; n++ {
		sum.Add(sum, term)
		term.Mul(term, big.NewInt(n))
		term.Quo(term, big.NewInt(2*n+1))
	}
	return new(big.Float).SetMantExp(fresh(mostOfPi).SetInt(sum), -mostOfPi-spare)
})

// series is x - x^3 / 3 + x^5 / 5 and so on, of an x near 0.
func series(x *big.Float) *big.Float {
	prec := x.Prec()
	sum, power := fresh(prec), fresh(prec).Set(x)
	square := fresh(prec).Mul(x, x)
	for n := int64(1); ; n += 2 {
		term := fresh(prec).Quo(power, fresh(prec).SetInt64(n))
		if term.Sign() == 0 || n > 1 && term.MantExp(nil) < sum.MantExp(nil)-int(prec) {
			return sum
		}
		sum.Add(sum, term)
		power.Neg(power.Mul(power, square))
	}
}

// atan is the angle of a tangent that is not below 0. Unlike the program it has tangents halved, and sums a series whose signs change.
func atan(t *big.Float) *big.Float {
	if t.Sign() == 0 || t.MantExp(nil) < -20 {
		return series(t)
	}
	const halvings = 22
	prec := t.Prec()
	tangent, one := fresh(prec).Set(t), fresh(prec).SetInt64(1)
	for range halvings {
		root := fresh(prec).Mul(tangent, tangent)
		root.Sqrt(root.Add(root, one))
		tangent.Quo(tangent, root.Add(root, one))
	}
	sum := series(tangent)
	return sum.SetMantExp(sum, halvings)
}

// signed gives an amount the sign of another number.
func signed(amount, of *big.Float) *big.Float {
	if of.Sign() < 0 {
		return amount.Neg(amount)
	}
	return amount
}

// arcCosine and arcSine are reckoned by tangents of half the angle, unlike in the program: with t = (1 - x) / (1 + x) that of the one is the root of t.
func arcCosine(x *big.Float) *big.Float {
	prec := x.Prec()
	one := big.NewFloat(1)
	under := fresh(prec).Add(one, x)
	if under.Sign() == 0 {
		return fresh(prec).Set(pi())
	}
	t := fresh(prec).Sub(one, x)
	return twice(atan(t.Sqrt(t.Quo(t, under))))
}

// The sine's is x, divided by 1 and the cosine.
func arcSine(x *big.Float) *big.Float {
	prec := x.Prec()
	one, amount := big.NewFloat(1), fresh(prec).Abs(x)
	cosine := fresh(prec).Mul(fresh(prec).Sub(one, amount), fresh(prec).Add(one, amount))
	cosine.Sqrt(cosine)
	return signed(twice(atan(amount.Quo(amount, cosine.Add(cosine, one)))), x)
}

// value is that of one of the six functions, in radians and in half turns, right to p bits and a hundred more.
func value(f api.Func, d api.Dyad, p int) *big.Float {
	x := fresh(uint(p) + 300).Set(float(d))
	switch f {
	case api.FuncAsin:
		return arcSine(x)
	case api.FuncAcos:
		return arcCosine(x)
	case api.FuncAtan:
		return signed(atan(fresh(x.Prec()).Abs(x)), x)
	default: // in half turns: the functions stand in the same order
		v := value(f-api.FuncAsinpi+api.FuncAsin, d, p)
		return v.Quo(v, pi())
	}
}

// value2 is that of one of the two functions of a point.
func value2(f api.Func, y, x api.Dyad, p int) *big.Float {
	prec := uint(p) + 300
	if f == api.FuncAtan2pi {
		v := value2(api.FuncAtan2, y, x, p)
		return v.Quo(v, pi())
	}
	up, along := fresh(prec).Abs(float(y)), fresh(prec).Abs(float(x))
	var v *big.Float
	switch {
	case along.Sign() == 0:
		v = half(fresh(prec).Set(pi()))
	default:
		v = atan(up.Quo(up, along))
	}
	if x.Neg {
		v.Sub(fresh(prec).Set(pi()), v)
	}
	return signed(v, float(y))
}

// isForm tells whether an enclosure is right, and in its one form.
func isForm(v api.Ival) bool {
	form, why := ival.Canon(v)
	return why == api.OK && reflect.DeepEqual(form, v)
}

// narrow tells whether both ends are 0, or have one sign and lie apart by at most 2^-p times the lesser amount.
func narrow(v api.Ival, p int) bool {
	lo, hi := float(v.Lo), float(v.Hi)
	near := lo
	if lo.Sign() < 0 {
		near = new(big.Float).Neg(hi)
	}
	width := fresh(1<<17).Sub(hi, lo)
	return lo.Sign() == hi.Sign() && width.SetMantExp(width, p).Cmp(near) <= 0
}

// has tells whether a number lies in an enclosure, but for as little as the tests do not know of it.
func has(v api.Ival, x *big.Float, p int) bool {
	little := fresh(64).SetMantExp(fresh(64).Abs(x), -p-100)
	low, high := fresh(x.Prec()+200).Sub(x, little), fresh(x.Prec()+200).Add(x, little)
	return float(v.Lo).Cmp(high) <= 0 && float(v.Hi).Cmp(low) >= 0
}

// right tells whether v is an enclosure of x to p bits.
func right(v api.Ival, x *big.Float, p int) bool { return isForm(v) && narrow(v, p) && has(v, x, p) }

// check holds what Enclose answers against the value.
func check(t *testing.T, f api.Func, x uint64, p int) {
	t.Helper()
	if v, why := invtrig.Enclose(f, x, p); why != api.OK || !right(v, value(f, number(x), p), p) {
		t.Errorf("Enclose(%d, %x, %d) = %s, error %d", f, x, p, showIval(v), why)
	}
}

// check2 holds what Enclose2 answers against the value.
func check2(t *testing.T, y, x uint64, p int) {
	t.Helper()
	for _, f := range two {
		if v, why := invtrig.Enclose2(f, y, x, p); why != api.OK || !right(v, value2(f, number(y), number(x), p), p) {
			t.Errorf("Enclose2(%d, %x, %x, %d) = %s, error %d", f, y, x, p, showIval(v), why)
		}
	}
}

// refused: that error, and nothing else.
func refused(t *testing.T, f api.Func, x uint64, p int, want api.Errno) {
	t.Helper()
	if v, why := invtrig.Enclose(f, x, p); why != want || !reflect.DeepEqual(v, api.Ival{}) {
		t.Errorf("Enclose(%d, %x, %d): error %d, want %d", f, x, p, why, want)
	}
}

func refused2(t *testing.T, f api.Func, y, x uint64, p int, want api.Errno) {
	t.Helper()
	if v, why := invtrig.Enclose2(f, y, x, p); why != want || !reflect.DeepEqual(v, api.Ival{}) {
		t.Errorf("Enclose2(%d, %x, %x, %d): error %d, want %d", f, y, x, p, why, want)
	}
}

// number is what a finite binary64 is.
func number(x uint64) api.Dyad {
	d, why := dyad.From(x)
	if why != api.OK {
		panic("not finite")
	}
	return d
}

func of(n uint64, exp int) api.Dyad { return api.Dyad{Abs: api.Nat{n}, Exp: exp} }

func less(d api.Dyad) api.Dyad {
	d.Neg = !d.Neg
	return d
}

func show(d api.Dyad) string {
	return float(d).Text('g', 30) + " (" + strconv.Itoa(len(d.Abs)) + " words)"
}

func showIval(v api.Ival) string { return show(v.Lo) + " to " + show(v.Hi) }
