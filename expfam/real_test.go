package expfam_test

import (
	"math/big"
	"reflect"
	"slices"
	"strconv"
	"testing"

	"ulp/api"
	"ulp/dyad"
	"ulp/expfam"
	"ulp/ival"
)

// float is a dyadic number as the tests reckon with it, exactly.
func float(d api.Dyad) *big.Float {
	n := new(big.Int)
	for _, w := range slices.Backward(d.Abs) {
		n.Lsh(n, 64).Or(n, new(big.Int).SetUint64(w))
	}
	if d.Neg {
		n.Neg(n)
	}
	return new(big.Float).SetMantExp(new(big.Float).SetInt(n), d.Exp)
}

func fresh(prec uint) *big.Float { return new(big.Float).SetPrec(prec) }

// overPowers is 1 / n + 1 / (2 n^2) + 1 / (3 n^3) and so on: the logarithm of n / (n - 1).
func overPowers(n int64, prec uint) *big.Float {
	sum, power := fresh(prec), fresh(prec).SetInt64(1)
	for i := int64(1); power.MantExp(nil) > -int(prec); i++ {
		power.Quo(power, fresh(prec).SetInt64(n))
		sum.Add(sum, fresh(prec).Quo(power, fresh(prec).SetInt64(i)))
	}
	return sum
}

// logsTold are the logarithms of bases that were reckoned already.
var logsTold = map[[2]uint]*big.Float{}

// logOf is the logarithm of a base: 10 is 8 times 5/4.
func logOf(base int, prec uint) *big.Float {
	key := [2]uint{uint(base), prec}
	if told := logsTold[key]; told != nil {
		return told
	}
	log := fresh(prec).SetInt64(1)
	switch base {
	case 2:
		log = overPowers(2, prec)
	case 10:
		log.Mul(overPowers(2, prec), fresh(prec).SetInt64(3))
		log.Add(log, overPowers(5, prec))
	}
	logsTold[key] = log
	return log
}

// powerOf is the base's power of t, right to p bits and a hundred more. The exponent is made smaller than expcore makes it, and the power itself is squared.
func powerOf(base int, t api.Dyad, p uint) *big.Float {
	const halvings = 40
	prec := p + 200
	x := fresh(prec).Set(float(t))
	x.Mul(x, logOf(base, prec))
	x.SetMantExp(x, -halvings)
	sum, term := fresh(prec).SetInt64(1), fresh(prec).SetInt64(1)
	for n := int64(1); term.Sign() != 0 && term.MantExp(nil) > -int(prec); n++ {
		term.Mul(term, x)
		term.Quo(term, fresh(prec).SetInt64(n))
		sum.Add(sum, term)
	}
	for range halvings {
		sum.Mul(sum, sum)
	}
	return sum
}

// lessOne is that less 1, right to p bits and a hundred more: the power is reckoned to as many bits more as 1 hides.
func lessOne(base int, t api.Dyad, p uint) *big.Float {
	hidden := max(0, -float(t).MantExp(nil))
	power := powerOf(base, t, p+uint(hidden))
	return power.Sub(power, big.NewFloat(1))
}

// kind is one of the six functions: its base, what is within reach of that, and its value.
type kind struct {
	f     api.Func
	base  int
	reach int64
	less  bool
}

var kinds = []kind{
	{api.FuncExp, 0, 11000, false}, {api.FuncExp2, 2, 16000, false}, {api.FuncExp10, 10, 4800, false},
	{api.FuncExpm1, 0, 11000, true}, {api.FuncExp2m1, 2, 16000, true}, {api.FuncExp10m1, 10, 4800, true},
}

func (k kind) value(t api.Dyad, p uint) *big.Float {
	if k.less {
		return lessOne(k.base, t, p)
	}
	return powerOf(k.base, t, p)
}

// within tells whether a number is within reach.
func (k kind) within(t api.Dyad) bool {
	return ival.Has(api.Ival{Lo: dyad.Int(-k.reach), Hi: dyad.Int(k.reach)}, t)
}

// isForm tells whether an enclosure is right, and in its one form.
func isForm(v api.Ival) bool {
	form, why := ival.Canon(v)
	return why == api.OK && reflect.DeepEqual(form, v)
}

// narrow tells whether ends of one sign lie apart by at most 2^-p times the lesser amount.
func narrow(v api.Ival, p int) bool {
	lo, hi := float(v.Lo), float(v.Hi)
	near := lo
	if lo.Sign() < 0 {
		near = new(big.Float).Neg(hi)
	}
	width := fresh(1<<17).Sub(hi, lo)
	return lo.Sign()*hi.Sign() > 0 && width.SetMantExp(width, p).Cmp(near) <= 0
}

// has tells whether a number lies in an enclosure, but for as little as the tests do not know of it.
func has(v api.Ival, x *big.Float, p uint) bool {
	little := fresh(64).SetMantExp(fresh(64).Abs(x), -int(p)-100)
	prec := x.Prec() + 200
	low, high := fresh(prec).Sub(x, little), fresh(prec).Add(x, little)
	return float(v.Lo).Cmp(high) <= 0 && float(v.Hi).Cmp(low) >= 0
}

// right tells whether v is an enclosure of x to p bits.
func right(v api.Ival, x *big.Float, p int) bool {
	return isForm(v) && narrow(v, p) && has(v, x, uint(p))
}

// check holds what Enclose answers against the value.
func (k kind) check(t *testing.T, x uint64, p int) {
	t.Helper()
	v, why := expfam.Enclose(k.f, x, p)
	if why != api.OK || !right(v, k.value(number(x), uint(p)), p) {
		t.Errorf("Enclose(%d, %x, %d) = %s, error %d", k.f, x, p, showIval(v), why)
	}
}

// checkPower holds what Power answers against the value.
func checkPower(t *testing.T, base int, d api.Dyad, p int) {
	t.Helper()
	v, why := expfam.Power(base, d, p)
	if why != api.OK || !right(v, powerOf(base, d, uint(p)), p) {
		t.Errorf("Power(%d, %s, %d) = %s, error %d", base, show(d), p, showIval(v), why)
	}
}

// refused: that error, and nothing else.
func refused(t *testing.T, f api.Func, x uint64, p int, want api.Errno) {
	t.Helper()
	if v, why := expfam.Enclose(f, x, p); why != want || !reflect.DeepEqual(v, api.Ival{}) {
		t.Errorf("Enclose(%d, %x, %d): error %d, want %d", f, x, p, why, want)
	}
}

func refusedPower(t *testing.T, base int, d api.Dyad, p int, want api.Errno) {
	t.Helper()
	if v, why := expfam.Power(base, d, p); why != want || !reflect.DeepEqual(v, api.Ival{}) {
		t.Errorf("Power(%d, %d words, exponent %d, %d): error %d, want %d", base, len(d.Abs), d.Exp, p, why, want)
	}
}

// number is what a finite binary64 is.
func number(x uint64) api.Dyad {
	d, why := dyad.From(x)
	if why != api.OK {
		panic("not finite")
	}
	return d
}

func of(n uint64, exp int) api.Dyad { return api.Dyad{Abs: api.Nat{n}, Exp: exp} }

func less(d api.Dyad) api.Dyad {
	d.Neg = !d.Neg
	return d
}

// sum is that of two numbers, where it has room.
func sum(a, b api.Dyad) api.Dyad {
	c, why := dyad.Add(a, b)
	if why != api.OK {
		panic("a sum without room")
	}
	return c
}

func show(d api.Dyad) string {
	return float(d).Text('g', 30) + " (" + strconv.Itoa(len(d.Abs)) + " words)"
}

func showIval(v api.Ival) string { return show(v.Lo) + " to " + show(v.Hi) }
