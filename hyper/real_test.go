package hyper_test

import (
	"math/big"
	"reflect"
	"slices"
	"strconv"
	"testing"

	"ulp/api"
	"ulp/dyad"
	"ulp/hyper"
	"ulp/ival"
)

// float is a dyadic number as the tests reckon with it, exactly.
func float(d api.Dyad) *big.Float {
	n := new(big.Int)
	for _, w := range slices.Backward(d.Abs) {
		n.Lsh(n, 64).Or(n, new(big.Int).SetUint64(w))
	}
	if d.Neg {
		n.Neg(n)
	}
	return new(big.Float).SetMantExp(new(big.Float).SetInt(n), d.Exp)
}

func fresh(prec uint) *big.Float { return new(big.Float).SetPrec(prec) }

// thirds is how often a number is divided by 3 ahead of the series.
const thirds = 14

// series is a first term, and behind each term, at place n, that times x^2 / ((n + 1) (n + 2)).
func series(first *big.Float, n int64, x *big.Float) *big.Float {
	prec := x.Prec()
	sum, term := fresh(prec), fresh(prec).Set(first)
	square := fresh(prec).Mul(x, x)
	for ; term.Sign() != 0 && (sum.Sign() == 0 || term.MantExp(nil) > sum.MantExp(nil)-int(prec)); n += 2 {
		sum.Add(sum, term)
		term.Mul(term, square)
		term.Quo(term, fresh(prec).SetInt64((n+1)*(n+2)))
	}
	return sum
}

// sincosh are the hyperbolic sine and cosine. Unlike in the program there is no power of e: of three times a number they are 3 s + 4 s^3 and 4 c^3 - 3 c.
func sincosh(d api.Dyad, p int) (sine, cosine *big.Float) {
	prec := uint(p) + 300
	x, three, four := fresh(prec).Set(float(d)), fresh(prec).SetInt64(3), fresh(prec).SetInt64(4)
	for range thirds {
		x.Quo(x, three)
	}
	cube := func(y *big.Float) *big.Float { return fresh(prec).Mul(fresh(prec).Mul(y, y), fresh(prec).Mul(y, four)) }
	sine, cosine = series(x, 1, x), series(big.NewFloat(1), 0, x)
	for range thirds {
		sineCube, cosineCube := cube(sine), cube(cosine)
		sine.Add(sine.Mul(sine, three), sineCube)
		cosine.Sub(cosineCube, cosine.Mul(cosine, three))
	}
	return sine, cosine
}

// tangent is the one over the other; beyond reach it is 1, but for less than the tests know.
func tangent(d api.Dyad, p int) *big.Float {
	if !isWithinReach(d) {
		return fresh(64).SetInt64(int64(float(d).Sign()))
	}
	sine, cosine := sincosh(d, p)
	return sine.Quo(sine, cosine)
}

// logSeries is x - x^2 / 2 + x^3 / 3 and so on, of an x near 0.
func logSeries(x *big.Float) *big.Float {
	prec := x.Prec()
	sum, power := fresh(prec), fresh(prec).SetInt64(-1)
	for n := int64(1); ; n++ {
		power.Neg(power.Mul(power, x))
		term := fresh(prec).Quo(power, fresh(prec).SetInt64(n))
		if term.Sign() == 0 || n > 1 && term.MantExp(nil) < sum.MantExp(nil)-int(prec) {
			return sum
		}
		sum.Add(sum, term)
	}
}

// logarithm takes roots, unlike the program.
func logarithm(x *big.Float) *big.Float {
	const roots = 24
	one := big.NewFloat(1)
	if near := fresh(x.Prec()).Sub(x, one); near.Sign() == 0 || near.MantExp(nil) < -20 {
		return logSeries(near)
	}
	root := fresh(x.Prec()).Set(x)
	for range roots {
		root.Sqrt(root)
	}
	sum := logSeries(root.Sub(root, one))
	return sum.SetMantExp(sum, roots)
}

// inverse is the value of one of the last three functions: 1 hides as many bits as x has noughts behind the point.
func inverse(f api.Func, d api.Dyad, p int) *big.Float {
	x, one := float(d), big.NewFloat(1)
	prec := uint(p + 300 + max(0, -x.MantExp(nil)))
	less, more := fresh(prec).Sub(x, one), fresh(prec).Add(x, one)
	switch f {
	case api.FuncAsinh:
		root := fresh(prec).Mul(x, x)
		amount := fresh(prec).Abs(x)
		log := logarithm(amount.Add(amount, root.Sqrt(root.Add(root, one))))
		if d.Neg {
			log.Neg(log)
		}
		return log
	case api.FuncAcosh:
		root := less.Mul(less, more)
		return logarithm(root.Add(root.Sqrt(root), x))
	default:
		log := logarithm(more.Quo(more, less.Neg(less)))
		return log.SetMantExp(log, -1)
	}
}

// value is that of one of the six functions, right to p bits and a hundred more.
func value(f api.Func, d api.Dyad, p int) *big.Float {
	switch f {
	case api.FuncSinh:
		sine, _ := sincosh(d, p)
		return sine
	case api.FuncCosh:
		_, cosine := sincosh(d, p)
		return cosine
	case api.FuncTanh:
		return tangent(d, p)
	default:
		return inverse(f, d, p)
	}
}

// isForm tells whether an enclosure is right, and in its one form.
func isForm(v api.Ival) bool {
	form, why := ival.Canon(v)
	return why == api.OK && reflect.DeepEqual(form, v)
}

// narrow tells whether both ends are 0, or have one sign and lie apart by at most 2^-p times the lesser amount.
func narrow(v api.Ival, p int) bool {
	lo, hi := float(v.Lo), float(v.Hi)
	near := lo
	if lo.Sign() < 0 {
		near = new(big.Float).Neg(hi)
	}
	width := fresh(1<<17).Sub(hi, lo)
	return lo.Sign() == hi.Sign() && width.SetMantExp(width, p).Cmp(near) <= 0
}

// has tells whether a number lies in an enclosure, but for as little as the tests do not know of it.
func has(v api.Ival, x *big.Float, p int) bool {
	little := fresh(64).SetMantExp(fresh(64).Abs(x), -p-100)
	low, high := fresh(x.Prec()+uint(p)+200).Sub(x, little), fresh(x.Prec()+uint(p)+200).Add(x, little)
	return float(v.Lo).Cmp(high) <= 0 && float(v.Hi).Cmp(low) >= 0
}

// right tells whether v is an enclosure of x to p bits.
func right(v api.Ival, x *big.Float, p int) bool { return isForm(v) && narrow(v, p) && has(v, x, p) }

// check holds what Enclose answers against the value.
func check(t *testing.T, f api.Func, x uint64, p int) {
	t.Helper()
	if v, why := hyper.Enclose(f, x, p); why != api.OK || !right(v, value(f, number(x), p), p) {
		t.Errorf("Enclose(%d, %x, %d) = %s, error %d", f, x, p, showIval(v), why)
	}
}

// checkBoth holds what Both answers against them.
func checkBoth(t *testing.T, d api.Dyad, p int) {
	t.Helper()
	if sine, cosine, why := hyper.Both(d, p); why != api.OK || !rightBoth(sine, cosine, d, p) {
		t.Errorf("Both(%s, %d) = %s, %s, error %d", show(d), p, showIval(sine), showIval(cosine), why)
	}
}

func rightBoth(sine, cosine api.Ival, d api.Dyad, p int) bool {
	wantSine, wantCosine := sincosh(d, p)
	return right(sine, wantSine, p) && right(cosine, wantCosine, p)
}

// refused: that error, and nothing else.
func refused(t *testing.T, f api.Func, x uint64, p int, want api.Errno) {
	t.Helper()
	if v, why := hyper.Enclose(f, x, p); why != want || !reflect.DeepEqual(v, api.Ival{}) {
		t.Errorf("Enclose(%d, %x, %d): error %d, want %d", f, x, p, why, want)
	}
}

func refusedBoth(t *testing.T, d api.Dyad, p int, want api.Errno) {
	t.Helper()
	if v, w, why := hyper.Both(d, p); why != want || !reflect.DeepEqual(v, api.Ival{}) || !reflect.DeepEqual(w, api.Ival{}) {
		t.Errorf("Both of %d words, exponent %d, to %d bits: error %d, want %d", len(d.Abs), d.Exp, p, why, want)
	}
}

// number is what a finite binary64 is.
func number(x uint64) api.Dyad {
	d, why := dyad.From(x)
	if why != api.OK {
		panic("not finite")
	}
	return d
}

func of(n uint64, exp int) api.Dyad { return api.Dyad{Abs: api.Nat{n}, Exp: exp} }

func less(d api.Dyad) api.Dyad {
	d.Neg = !d.Neg
	return d
}

// sum is that of two numbers, where it has room.
func sum(a, b api.Dyad) api.Dyad {
	c, why := dyad.Add(a, b)
	if why != api.OK {
		panic("a sum without room")
	}
	return c
}

func show(d api.Dyad) string {
	return float(d).Text('g', 30) + " (" + strconv.Itoa(len(d.Abs)) + " words)"
}

func showIval(v api.Ival) string { return show(v.Lo) + " to " + show(v.Hi) }
