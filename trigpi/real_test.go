package trigpi_test

import (
	"math/big"
	"reflect"
	"slices"
	"strconv"
	"sync"
	"testing"

	"ulp/api"
	"ulp/dyad"
	"ulp/ival"
	"ulp/trigpi"
)

// float is a dyadic number as the tests reckon with it, exactly.
func float(d api.Dyad) *big.Float {
	n := new(big.Int)
	for _, w := range slices.Backward(d.Abs) {
		n.Lsh(n, 64).Or(n, new(big.Int).SetUint64(w))
	}
	if d.Neg {
		n.Neg(n)
	}
	return new(big.Float).SetMantExp(new(big.Float).SetInt(n), d.Exp)
}

func fresh(prec uint) *big.Float { return new(big.Float).SetPrec(prec) }

const (
	mostOfPi = 4000    // bits to which the tests know pi
	exact    = 1 << 17 // bits: more than a right number and a half have
)

// pi is that, by Euler's series: twice the sum of the terms of which each is the one ahead times n / (2 n + 1).
var pi = sync.OnceValue(func() *big.Float {
	const spare = 64
	term := new(big.Int).Lsh(big.NewInt(2), mostOfPi+spare)
	sum := new(big.Int)
	for n := int64(1); term.Sign() > 0; n++ {
		sum.Add(sum, term)
		term.Mul(term, big.NewInt(n))
		term.Quo(term, big.NewInt(2*n+1))
	}
	return new(big.Float).SetMantExp(fresh(mostOfPi).SetInt(sum), -mostOfPi-spare)
})

// series is x - x^3 / 6 + x^5 / 120 and so on, of an x near 0.
func series(x *big.Float) *big.Float {
	prec := x.Prec()
	sum, term := fresh(prec), fresh(prec).Set(x)
	square := fresh(prec).Mul(x, x)
	for n := int64(1); ; n += 2 {
		if term.Sign() == 0 || n > 1 && term.MantExp(nil) < sum.MantExp(nil)-int(prec) {
			return sum
		}
		sum.Add(sum, term)
		term.Mul(term, square)
		term.Quo(term.Neg(term), fresh(prec).SetInt64((n+1)*(n+2)))
	}
}

// sineOf is that of an angle from 0 to a right angle: it is divided by 3 again and again.
func sineOf(x *big.Float) *big.Float {
	const thirds = 12
	if x.MantExp(nil) < -40 {
		return series(x)
	}
	prec := x.Prec()
	x = fresh(prec).Set(x)
	for range thirds {
		x.Quo(x, fresh(prec).SetInt64(3))
	}
	sine := series(x)
	for range thirds { // the sine of three times the angle is 3 s - 4 s^3
		cube := fresh(prec).Mul(sine, sine)
		cube.Mul(cube, sine)
		sine.Sub(sine.Mul(sine, fresh(prec).SetInt64(3)), cube.Mul(cube, fresh(prec).SetInt64(4)))
	}
	return sine
}

// sineOfHalfTurns takes whole ones off, by floors, and mirrors what lies beyond a right angle: all exactly, and unlike the program.
func sineOfHalfTurns(turns *big.Float, prec uint) *big.Float {
	rest := fresh(exact).Abs(turns)
	whole, _ := rest.Int(nil)
	rest.Sub(rest, fresh(exact).SetInt(whole))
	if rest.Cmp(big.NewFloat(0.5)) > 0 {
		rest.Sub(big.NewFloat(1), rest)
	}
	sine := fresh(prec).Set(rest)
	sine = sineOf(sine.Mul(sine, pi()))
	if (turns.Sign() < 0) != (whole.Bit(0) == 1) {
		sine.Neg(sine)
	}
	return sine
}

// sincos are the sine and the cosine of x half turns, right to p bits and a hundred more.
func sincos(x api.Dyad, p int) (sine, cosine *big.Float) {
	turns := float(x)
	quarter := fresh(exact).Add(turns, big.NewFloat(0.5))
	prec := uint(p) + 300
	return sineOfHalfTurns(turns, prec), sineOfHalfTurns(quarter, prec)
}

// value is that of one of the three functions.
func value(f api.Func, x api.Dyad, p int) *big.Float {
	sine, cosine := sincos(x, p)
	switch f {
	case api.FuncSinpi:
		return sine
	case api.FuncCospi:
		return cosine
	default:
		return sine.Quo(sine, cosine)
	}
}

// isForm tells whether an enclosure is right, and in its one form.
func isForm(v api.Ival) bool {
	form, why := ival.Canon(v)
	return why == api.OK && reflect.DeepEqual(form, v)
}

// narrow tells whether both ends are 0, or have one sign and lie apart by at most 2^-p times the lesser amount.
func narrow(v api.Ival, p int) bool {
	lo, hi := float(v.Lo), float(v.Hi)
	near := lo
	if lo.Sign() < 0 {
		near = new(big.Float).Neg(hi)
	}
	width := fresh(1<<17).Sub(hi, lo)
	return lo.Sign() == hi.Sign() && width.SetMantExp(width, p).Cmp(near) <= 0
}

// has tells whether a number lies in an enclosure, but for as little as the tests do not know of it.
func has(v api.Ival, x *big.Float, p int) bool {
	little := fresh(64).SetMantExp(fresh(64).Abs(x), -p-100)
	low, high := fresh(x.Prec()+200).Sub(x, little), fresh(x.Prec()+200).Add(x, little)
	return float(v.Lo).Cmp(high) <= 0 && float(v.Hi).Cmp(low) >= 0
}

// right tells whether v is an enclosure of x to p bits.
func right(v api.Ival, x *big.Float, p int) bool { return isForm(v) && narrow(v, p) && has(v, x, p) }

// check holds what Enclose answers against the values; a tangent that is none is refused.
func check(t *testing.T, x uint64, p int) {
	t.Helper()
	for _, f := range three {
		if f == api.FuncTanpi && value(api.FuncCospi, number(x), p).Sign() == 0 {
			refused(t, f, x, p, api.ErrWhole)
			continue
		}
		v, why := trigpi.Enclose(f, x, p)
		if why != api.OK || !right(v, value(f, number(x), p), p) {
			t.Errorf("Enclose(%d, %x, %d) = %s, error %d", f, x, p, showIval(v), why)
		}
	}
}

// checkBoth holds what Both answers against them.
func checkBoth(t *testing.T, x api.Dyad, p int) {
	t.Helper()
	sine, cosine, why := trigpi.Both(x, p)
	if why != api.OK || !rightBoth(sine, cosine, x, p) {
		t.Errorf("Both(%s, %d) = %s, %s, error %d", show(x), p, showIval(sine), showIval(cosine), why)
	}
}

func rightBoth(sine, cosine api.Ival, x api.Dyad, p int) bool {
	wantSine, wantCosine := sincos(x, p)
	return right(sine, wantSine, p) && right(cosine, wantCosine, p)
}

// refused: that error, and nothing else.
func refused(t *testing.T, f api.Func, x uint64, p int, want api.Errno) {
	t.Helper()
	if v, why := trigpi.Enclose(f, x, p); why != want || !reflect.DeepEqual(v, api.Ival{}) {
		t.Errorf("Enclose(%d, %x, %d): error %d, want %d", f, x, p, why, want)
	}
}

func refusedBoth(t *testing.T, x api.Dyad, p int, want api.Errno) {
	t.Helper()
	if v, w, why := trigpi.Both(x, p); why != want || !reflect.DeepEqual(v, api.Ival{}) || !reflect.DeepEqual(w, api.Ival{}) {
		t.Errorf("Both of %d words, exponent %d, to %d bits: error %d, want %d", len(x.Abs), x.Exp, p, why, want)
	}
}

// number is what a finite binary64 is.
func number(x uint64) api.Dyad {
	d, why := dyad.From(x)
	if why != api.OK {
		panic("not finite")
	}
	return d
}

func of(n uint64, exp int) api.Dyad { return api.Dyad{Abs: api.Nat{n}, Exp: exp} }

func less(d api.Dyad) api.Dyad {
	d.Neg = !d.Neg
	return d
}

// sum is that of two numbers, where it has room; times, the product.
func sum(a, b api.Dyad) api.Dyad {
	c, why := dyad.Add(a, b)
	if why != api.OK {
		panic("a sum without room")
	}
	return c
}

func times(a, b api.Dyad) api.Dyad {
	c, why := dyad.Mul(a, b)
	if why != api.OK {
		panic("a product without room")
	}
	return c
}

func show(d api.Dyad) string {
	return float(d).Text('g', 30) + " (" + strconv.Itoa(len(d.Abs)) + " words)"
}

func showIval(v api.Ival) string { return show(v.Lo) + " to " + show(v.Hi) }
