package logfam_test

import (
	"math/big"
	"reflect"
	"slices"
	"strconv"
	"testing"

	"ulp/api"
	"ulp/dyad"
	"ulp/ival"
	"ulp/logfam"
)

// float is a dyadic number as the tests reckon with it, exactly.
func float(d api.Dyad) *big.Float {
	n := new(big.Int)
	for _, w := range slices.Backward(d.Abs) {
		n.Lsh(n, 64).Or(n, new(big.Int).SetUint64(w))
	}
	if d.Neg {
		n.Neg(n)
	}
	return new(big.Float).SetMantExp(new(big.Float).SetInt(n), d.Exp)
}

func fresh(prec uint) *big.Float { return new(big.Float).SetPrec(prec) }

// series is x - x^2 / 2 + x^3 / 3 and so on, of an x near 0.
func series(x *big.Float, prec uint) *big.Float {
	sum, power := fresh(prec), fresh(prec).SetInt64(1)
	for n := int64(1); ; n++ {
		power.Mul(power, x)
		term := fresh(prec).Quo(power, fresh(prec).SetInt64(n))
		if term.Sign() == 0 || n > 1 && term.MantExp(nil) < sum.MantExp(nil)-int(prec) {
			return sum
		}
		if n%2 == 0 {
			term.Neg(term)
		}
		sum.Add(sum, term)
	}
}

// natural is the logarithm of t, right to p bits and a hundred more. Unlike the program it takes roots of t itself, and has no power of 2 taken off.
func natural(t *big.Float, p uint) *big.Float {
	const roots = 24
	prec := p + 300
	x := fresh(t.Prec()+1<<16).Sub(t, big.NewFloat(1))
	if x.Sign() == 0 || x.MantExp(nil) < -20 {
		return series(fresh(prec).Set(x), prec)
	}
	root := fresh(prec).Set(t)
	for range roots {
		root.Sqrt(root)
	}
	sum := series(root.Sub(root, big.NewFloat(1)), prec)
	return sum.SetMantExp(sum, roots)
}

// logsTold are the logarithms of bases that were reckoned already.
var logsTold = map[[2]uint]*big.Float{}

// logOf is the natural logarithm of a base.
func logOf(base int, p uint) *big.Float {
	key := [2]uint{uint(base), p}
	if logsTold[key] == nil {
		logsTold[key] = natural(new(big.Float).SetInt64(int64(base)), p)
	}
	return logsTold[key]
}

// logarithm is that of t to a base.
func logarithm(base int, t api.Dyad, p uint) *big.Float {
	log := natural(float(t), p)
	if base != 0 {
		log.Quo(log, logOf(base, p))
	}
	return log
}

// kind is one of the six functions.
type kind struct {
	f    api.Func
	base int
	more bool
}

var kinds = []kind{
	{api.FuncLog, 0, false}, {api.FuncLog2, 2, false}, {api.FuncLog10, 10, false},
	{api.FuncLog1p, 0, true}, {api.FuncLog2p1, 2, true}, {api.FuncLog10p1, 10, true},
}

// of is the number whose logarithm the function tells at x.
func (k kind) of(x uint64) api.Dyad {
	if k.more {
		return sum(number(x), of(1, 0))
	}
	return number(x)
}

// isForm tells whether an interval is right, and in its one form.
func isForm(v api.Ival) bool {
	form, why := ival.Canon(v)
	return why == api.OK && reflect.DeepEqual(form, v)
}

// narrow tells whether both ends are 0, or of one sign, and apart by at most 2^-p times the lesser amount.
func narrow(v api.Ival, p int) bool {
	lo, hi := float(v.Lo), float(v.Hi)
	near := lo
	if lo.Sign() < 0 {
		near = new(big.Float).Neg(hi)
	}
	width := fresh(1<<17).Sub(hi, lo)
	return lo.Sign() == 0 && hi.Sign() == 0 || lo.Sign()*hi.Sign() > 0 && width.SetMantExp(width, p).Cmp(near) <= 0
}

// has tells whether a number lies in an interval, but for as little as the tests do not know of it.
func has(v api.Ival, x *big.Float, p uint) bool {
	little := fresh(64).SetMantExp(fresh(64).Abs(x), -int(p)-100)
	prec := x.Prec() + 200
	low, high := fresh(prec).Sub(x, little), fresh(prec).Add(x, little)
	return float(v.Lo).Cmp(high) <= 0 && float(v.Hi).Cmp(low) >= 0
}

// right tells whether v is an enclosure of the logarithm of t to a base, to p bits.
func right(v api.Ival, base int, t api.Dyad, p int) bool {
	return isForm(v) && narrow(v, p) && has(v, logarithm(base, t, uint(p)), uint(p))
}

// check holds what Enclose answers against the logarithm.
func (k kind) check(t *testing.T, x uint64, p int) {
	t.Helper()
	if v, why := logfam.Enclose(k.f, x, p); why != api.OK || !right(v, k.base, k.of(x), p) {
		t.Errorf("Enclose(%d, %x, %d) = %s, error %d", k.f, x, p, showIval(v), why)
	}
}

// checkTo holds what To answers against the logarithm.
func checkTo(t *testing.T, base int, d api.Dyad, p int) {
	t.Helper()
	if v, why := logfam.To(base, d, p); why != api.OK || !right(v, base, d, p) {
		t.Errorf("To(%d, %s, %d) = %s, error %d", base, show(d), p, showIval(v), why)
	}
}

// refused: that error, and nothing else.
func refused(t *testing.T, f api.Func, x uint64, p int, want api.Errno) {
	t.Helper()
	if v, why := logfam.Enclose(f, x, p); why != want || !reflect.DeepEqual(v, api.Ival{}) {
		t.Errorf("Enclose(%d, %x, %d): error %d, want %d", f, x, p, why, want)
	}
}

func refusedTo(t *testing.T, base int, d api.Dyad, p int, want api.Errno) {
	t.Helper()
	if v, why := logfam.To(base, d, p); why != want || !reflect.DeepEqual(v, api.Ival{}) {
		t.Errorf("To(%d, %d words, exponent %d, less %v, %d): error %d, want %d", base, len(d.Abs), d.Exp, d.Neg, p, why, want)
	}
}

// number is what a finite binary64 is.
func number(x uint64) api.Dyad {
	d, why := dyad.From(x)
	if why != api.OK {
		panic("not finite")
	}
	return d
}

func of(n uint64, exp int) api.Dyad { return api.Dyad{Abs: api.Nat{n}, Exp: exp} }

func less(d api.Dyad) api.Dyad {
	d.Neg = !d.Neg
	return d
}

// sum is that of two numbers, where it has room.
func sum(a, b api.Dyad) api.Dyad {
	c, why := dyad.Add(a, b)
	if why != api.OK {
		panic("a sum without room")
	}
	return c
}

func show(d api.Dyad) string {
	return float(d).Text('g', 30) + " (" + strconv.Itoa(len(d.Abs)) + " words)"
}

func showIval(v api.Ival) string { return show(v.Lo) + " to " + show(v.Hi) }
