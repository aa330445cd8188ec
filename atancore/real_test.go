package atancore_test

import (
	"math/big"
	"reflect"
	"slices"
	"strconv"
	"testing"

	"ulp/api"
	"ulp/atancore"
	"ulp/dyad"
	"ulp/ival"
)

// float is a dyadic number as the tests reckon with it, exactly.
func float(d api.Dyad) *big.Float {
	n := new(big.Int)
	for _, w := range slices.Backward(d.Abs) {
		n.Lsh(n, 64).Or(n, new(big.Int).SetUint64(w))
	}
	if d.Neg {
		n.Neg(n)
	}
	return new(big.Float).SetMantExp(new(big.Float).SetInt(n), d.Exp)
}

func fresh(prec uint) *big.Float { return new(big.Float).SetPrec(prec) }

// series is x - x^3 / 3 + x^5 / 5 and so on, of an x near 0.
func series(x *big.Float) *big.Float {
	prec := x.Prec()
	sum, power := fresh(prec), fresh(prec).Set(x)
	square := fresh(prec).Mul(x, x)
	for n := int64(1); ; n += 2 {
		term := fresh(prec).Quo(power, fresh(prec).SetInt64(n))
		if term.Sign() == 0 || n > 1 && term.MantExp(nil) < sum.MantExp(nil)-int(prec) {
			return sum
		}
		sum.Add(sum, term)
		power.Neg(power.Mul(power, square))
	}
}

// atan is the angle of a tangent above 0. Unlike the program it has tangents halved, and sums a series whose signs change.
func atan(t *big.Float) *big.Float {
	if t.MantExp(nil) < -20 {
		return series(t)
	}
	const halvings = 22
	prec := t.Prec()
	half, one := fresh(prec).Set(t), fresh(prec).SetInt64(1)
	for range halvings {
		root := fresh(prec).Mul(half, half)
		root.Sqrt(root.Add(root, one))
		half.Quo(half, root.Add(root, one))
	}
	sum := series(half)
	return sum.SetMantExp(sum, halvings)
}

// pi goes by sixteenths: 4 / (8 k + 1) - 2 / (8 k + 4) - 1 / (8 k + 5) - 1 / (8 k + 6), each divided by 16^k.
func pi(prec uint) *big.Float {
	sum := fresh(prec)
	for k := int64(0); k < int64(prec)/4; k++ {
		for _, part := range [][2]int64{{4, 1}, {-2, 4}, {-1, 5}, {-1, 6}} {
			term := fresh(prec).Quo(fresh(prec).SetInt64(part[0]), fresh(prec).SetInt64(8*k+part[1]))
			sum.Add(sum, term.SetMantExp(term, -int(4*k)))
		}
	}
	return sum
}

// angle is that of the point x, y, right to p bits and a hundred more.
func angle(y, x api.Dyad, p uint) *big.Float {
	prec := p + 200
	up, right := fresh(prec).Set(float(y)), fresh(prec).Set(float(x))
	var made *big.Float
	switch {
	case up.Sign() == 0 && right.Sign() > 0:
		return fresh(prec)
	case up.Sign() == 0:
		return pi(prec)
	case right.Sign() == 0:
		made = pi(prec)
		made.SetMantExp(made, -1)
	default:
		made = atan(fresh(prec).Quo(fresh(prec).Abs(up), fresh(prec).Abs(right)))
	}
	if right.Sign() < 0 {
		made.Sub(pi(prec), made)
	}
	if up.Sign() < 0 {
		made.Neg(made)
	}
	return made
}

// isForm tells whether an interval is right, and in its one form.
func isForm(v api.Ival) bool {
	form, why := ival.Canon(v)
	return why == api.OK && reflect.DeepEqual(form, v)
}

// has tells whether an angle lies in an enclosure, but for as little as the tests do not know of it.
func has(v api.Ival, x *big.Float, p int) bool {
	little := fresh(64).SetMantExp(fresh(64).Abs(x), -p-100)
	prec := x.Prec() + 200
	low, high := fresh(prec).Sub(x, little), fresh(prec).Add(x, little)
	return float(v.Lo).Cmp(high) <= 0 && float(v.Hi).Cmp(low) >= 0
}

// right tells whether v is an enclosure of the angle of the point x, y to p bits.
func right(v api.Ival, y, x api.Dyad, p int) bool {
	return isForm(v) && ival.Narrow(v, p) && has(v, angle(y, x, uint(p)), p)
}

// checkAtan holds what Atan answers against the angle.
func checkAtan(t *testing.T, d api.Dyad, p int) {
	t.Helper()
	if v, why := atancore.Atan(d, p); why != api.OK || !right(v, d, of(1, 0), p) {
		t.Errorf("Atan(%s, %d) = %s, error %d", show(d), p, showIval(v), why)
	}
}

// checkAngle likewise.
func checkAngle(t *testing.T, y, x api.Dyad, p int) {
	t.Helper()
	if v, why := atancore.Angle(y, x, p); why != api.OK || !right(v, y, x, p) {
		t.Errorf("Angle(%s, %s, %d) = %s, error %d", show(y), show(x), p, showIval(v), why)
	}
}

// rightOrMany: what is far may be refused, but if it is not, it is told rightly.
func rightOrMany(t *testing.T, v api.Ival, why api.Errno, y, x api.Dyad, p int) {
	t.Helper()
	refused := why == api.ErrMany && reflect.DeepEqual(v, api.Ival{})
	if !refused && (why != api.OK || !right(v, y, x, p)) {
		t.Errorf("of %s, %s to %d bits: %s, error %d", show(y), show(x), p, showIval(v), why)
	}
}

func of(n uint64, exp int) api.Dyad { return api.Dyad{Abs: api.Nat{n}, Exp: exp} }

func less(d api.Dyad) api.Dyad {
	d.Neg = !d.Neg
	return d
}

// sum is that of two numbers, where it has room; times, the product.
func sum(a, b api.Dyad) api.Dyad {
	c, why := dyad.Add(a, b)
	if why != api.OK {
		panic("a sum without room")
	}
	return c
}

func times(a, b api.Dyad) api.Dyad {
	c, why := dyad.Mul(a, b)
	if why != api.OK {
		panic("a product without room")
	}
	return c
}

func show(d api.Dyad) string {
	return float(d).Text('g', 30) + " (" + strconv.Itoa(len(d.Abs)) + " words)"
}

func showIval(v api.Ival) string { return show(v.Lo) + " to " + show(v.Hi) }
