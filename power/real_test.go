package power_test

import (
	"math"
	"math/big"
	mathbits "math/bits"
	"reflect"
	"slices"
	"strconv"
	"testing"

	"ulp/api"
	"ulp/dyad"
	"ulp/ival"
	"ulp/power"
)

// float is a dyadic number as the tests reckon with it, exactly.
func float(d api.Dyad) *big.Float {
	n := integer(d.Abs)
	if d.Neg {
		n.Neg(n)
	}
	return new(big.Float).SetMantExp(new(big.Float).SetInt(n), d.Exp)
}

func integer(a api.Nat) *big.Int {
	n := new(big.Int)
	for _, w := range slices.Backward(a) {
		n.Lsh(n, 64).Or(n, new(big.Int).SetUint64(w))
	}
	return n
}

// natural is a whole number as the program reckons with it.
func natural(n *big.Int) api.Nat {
	var a api.Nat
	for rest := new(big.Int).Set(n); rest.Sign() > 0; rest.Rsh(rest, 64) {
		a = append(a, new(big.Int).And(rest, new(big.Int).SetUint64(math.MaxUint64)).Uint64())
	}
	return a
}

func fresh(prec uint) *big.Float { return new(big.Float).SetPrec(prec) }

// apart is the amount of a number other than 0 as an odd number times a power of 2.
func apart(x float64) (odd uint64, exp int) {
	fraction, exp := math.Frexp(math.Abs(x))
	n := uint64(math.Ldexp(fraction, 53))
	zeros := mathbits.TrailingZeros64(n)
	return n >> zeros, exp - 53 + zeros
}

// value is x to the power of y, right to p bits and a hundred more: roots are taken and products made, unlike in the program, which goes by logarithms. What is beyond all bounds is an infinity, or 0.
func value(x, y float64, p int) *big.Float {
	prec := uint(p) + 300
	all := fresh(prec).SetInt64(1)
	if y == 0 {
		return all
	}
	n, exp := apart(y)
	factor := fresh(prec).SetFloat64(math.Abs(x))
	for range -exp {
		factor.Sqrt(factor)
	}
	for i := range mathbits.Len64(n) {
		if n>>i&1 == 1 {
			all.Mul(all, factor)
		}
		factor.Mul(factor, factor)
	}
	for range exp {
		all.Mul(all, all)
	}
	if y < 0 {
		all.Quo(fresh(prec).SetInt64(1), all)
	}
	if isNegative(x, y) {
		all.Neg(all)
	}
	return all
}

func isWhole(y float64) bool { return y == math.Trunc(y) }

// isNegative tells whether the value is below 0.
func isNegative(x, y float64) bool { return x < 0 && isWhole(y) && math.Mod(y, 2) != 0 }

// hasValue tells whether there is one.
func hasValue(x, y float64) bool {
	finite := x-x == 0 && y-y == 0
	return finite && x != 0 && (x > 0 || isWhole(y))
}

// isBeyond tells whether the size of a power is above a limit in its amount.
func isBeyond(x, y float64, limit int64) bool {
	odd, exp := uint64(0), 0
	if odd, exp = apart(x); odd == 1 {
		size := fresh(200).Mul(big.NewFloat(float64(exp)), big.NewFloat(y))
		return size.Abs(size).Cmp(fresh(200).SetInt64(limit)) > 0
	}
	// No whole power of 2 is another one's: so what is not known of the value is no matter.
	v := value(math.Abs(x), y, 64)
	return v.Sign() == 0 || v.IsInf() || v.Cmp(fresh(64).SetMantExp(big.NewFloat(1), int(limit))) > 0 || v.Cmp(fresh(64).SetMantExp(big.NewFloat(1), -int(limit))) < 0
}

// isOver tells whether the size is above 0.
func isOver(x, y float64) bool { return math.Abs(x) > 1 && y > 0 || math.Abs(x) < 1 && y < 0 }

// few is the value, if it is of few bits: the number of MaxFew bits that lies nearest is, if it has the right power.
func few(x, y float64) (*big.Float, bool) {
	v := value(x, y, 400)
	odd, exp := apart(x)
	switch {
	case odd == 1 && exp == 0 || y == 0:
		return v, true
	case v.Sign() == 0 || v.IsInf():
		return nil, false
	}
	near := fresh(api.MaxFew).Set(v)
	if away := fresh(700).Sub(v, near); away.Sign() != 0 && away.MantExp(nil) > v.MantExp(nil)-350 {
		return nil, false
	}
	size := int(near.MinPrec())
	low := near.MantExp(nil) - size
	is := isRightPower(x, y, fresh(api.MaxFew).SetMantExp(near, -low), low)
	return near, is && low >= -api.MaxExp && low <= api.MaxExp
}

// isRightPower tells whether c times 2^low, c being odd, is x^y by its amount: its 2^k-th power is that of x to which y is, times 2^k. (The 2^11-th power of no number but 1 is a binary64.)
func isRightPower(x, y float64, c *big.Float, low int) bool {
	odd, exp := apart(x)
	n, k := apart(y)
	if k < -11 || k > 20 {
		return false
	}
	n <<= max(0, k)
	degree := int64(1) << max(0, -k)
	times := int64(n)
	if y < 0 {
		times = -times
	}
	if int64(low)*degree != int64(exp)*times {
		return false
	}
	root, _ := c.Int(nil)
	root.Abs(root)
	if odd == 1 || root.Cmp(big.NewInt(1)) == 0 {
		return odd == 1 && root.Cmp(big.NewInt(1)) == 0
	}
	if times < 0 || times > int64(api.MaxFew)*degree {
		return false
	}
	power := new(big.Int).Exp(new(big.Int).SetUint64(odd), big.NewInt(times), nil)
	return power.Cmp(new(big.Int).Exp(root, big.NewInt(degree), nil)) == 0
}

// isForm tells whether an enclosure is right, and in its one form.
func isForm(v api.Ival) bool {
	form, why := ival.Canon(v)
	return why == api.OK && reflect.DeepEqual(form, v)
}

// narrow tells whether both ends have one sign, and lie apart by at most 2^-p times the lesser amount.
func narrow(v api.Ival, p int) bool {
	lo, hi := float(v.Lo), float(v.Hi)
	near := lo
	if lo.Sign() < 0 {
		near = new(big.Float).Neg(hi)
	}
	width := fresh(1<<17).Sub(hi, lo)
	return lo.Sign() == hi.Sign() && lo.Sign() != 0 && width.SetMantExp(width, p).Cmp(near) <= 0
}

// has tells whether a number lies in an enclosure, but for as little as the tests do not know of it.
func has(v api.Ival, x *big.Float, p int) bool {
	little := fresh(64).SetMantExp(fresh(64).Abs(x), -p-100)
	low, high := fresh(x.Prec()+uint(p)+200).Sub(x, little), fresh(x.Prec()+uint(p)+200).Add(x, little)
	return float(v.Lo).Cmp(high) <= 0 && float(v.Hi).Cmp(low) >= 0
}

// right tells whether v is an enclosure of x to p bits.
func right(v api.Ival, x *big.Float, p int) bool { return isForm(v) && narrow(v, p) && has(v, x, p) }

func word(x float64) uint64 { return math.Float64bits(x) }

// check holds what Enclose2 answers against the value.
func check(t *testing.T, x, y float64, p int) {
	t.Helper()
	if v, why := power.Enclose2(api.FuncPow, word(x), word(y), p); why != api.OK || !right(v, value(x, y, p), p) {
		t.Errorf("Enclose2(%g, %g, %d) = %s, error %d", x, y, p, showIval(v), why)
	}
}

// refused: that error, and nothing else.
func refused(t *testing.T, f api.Func, x, y uint64, p int, want api.Errno) {
	t.Helper()
	if v, why := power.Enclose2(f, x, y, p); why != want || !reflect.DeepEqual(v, api.Ival{}) {
		t.Errorf("Enclose2(%d, %x, %x, %d): error %d, want %d", f, x, y, p, why, want)
	}
}

func of(n uint64, exp int) api.Dyad { return api.Dyad{Abs: api.Nat{n}, Exp: exp} }

func less(d api.Dyad) api.Dyad {
	d.Neg = !d.Neg
	return d
}

// canon is the one form of a number that has room.
func canon(d api.Dyad) api.Dyad {
	c, why := dyad.Canon(d)
	if why != api.OK {
		panic("a number without room")
	}
	return c
}

func show(d api.Dyad) string {
	return float(d).Text('g', 30) + " (" + strconv.Itoa(len(d.Abs)) + " words)"
}

func showIval(v api.Ival) string { return show(v.Lo) + " to " + show(v.Hi) }
