package tables_test

import (
	"math/big"
	"slices"

	"ulp/api"
)

// prec is how many bits the tests reckon with: far more than entries have, and than all turns.
const prec = 1400

// float is a dyadic number as the tests reckon with it, exactly.
func float(d api.Dyad) *big.Float {
	n := new(big.Int)
	for _, w := range slices.Backward(d.Abs) {
		n.Lsh(n, 64).Or(n, new(big.Int).SetUint64(w))
	}
	if d.Neg {
		n.Neg(n)
	}
	return new(big.Float).SetMantExp(new(big.Float).SetInt(n), d.Exp)
}

func fresh() *big.Float { return new(big.Float).SetPrec(prec) }

func whole(n int) *big.Float { return fresh().SetInt64(int64(n)) }

func quotient(a, b *big.Float) *big.Float { return fresh().Quo(a, b) }

func product(a, b *big.Float) *big.Float { return fresh().Mul(a, b) }

func difference(a, b *big.Float) *big.Float { return fresh().Sub(a, b) }

// scaled is x times 2^n.
func scaled(x *big.Float, n int) *big.Float { return fresh().SetMantExp(x, n) }

// summed adds terms till they are too small to count, the n-th being what next makes of the one ahead.
func summed(term *big.Float, next func(term *big.Float, n int) *big.Float) *big.Float {
	sum := fresh()
	for n := 1; term.Sign() != 0 && term.MantExp(nil) > -prec-20; n++ {
		sum.Add(sum, term)
		term = next(term, n)
	}
	return sum
}

// realsTold are values that were reckoned already, by kind, n and i; piTold is pi.
var (
	realsTold = map[[3]int]*big.Float{}
	piTold    *big.Float
)

// real is the value of a table's entry, right to more than 1300 bits.
func real(k api.TableKind, n, i int) *big.Float {
	key := [3]int{int(k), n, i}
	if realsTold[key] == nil {
		realsTold[key] = reckoned(k, n, i)
	}
	return realsTold[key]
}

// reckoned goes by other ways than the program.
func reckoned(k api.TableKind, n, i int) *big.Float {
	part := quotient(whole(i), whole(1<<n))
	switch k {
	case api.TableExp2:
		return rootOfPower(n, i)
	case api.TableLog:
		return logOfOneMore(part)
	case api.TableInverse:
		return quotient(whole(1<<n), whole(1<<n+i))
	case api.TableAtan:
		return arcTangent(part)
	default:
		return sine(product(pi(), scaled(part, -1)))
	}
}

// rootOfPower is 2^i, its root taken n times.
func rootOfPower(n, i int) *big.Float {
	x := scaled(whole(1), i)
	for range n {
		x.Sqrt(x)
	}
	return x
}

// logOfOneMore is twice z + z^3 / 3 + z^5 / 5 and so on, with z = x / (2 + x).
func logOfOneMore(x *big.Float) *big.Float {
	z := quotient(x, fresh().Add(whole(2), x))
	square, power := product(z, z), z
	return scaled(summed(z, func(_ *big.Float, n int) *big.Float {
		power = product(power, square)
		return quotient(power, whole(2*n+1))
	}), 1)
}

// arcTangent is as Euler had it: with q = x^2 / (1 + x^2) each term is 2 n q / (2 n + 1) times the one ahead.
func arcTangent(x *big.Float) *big.Float {
	square := product(x, x)
	more := fresh().Add(whole(1), square)
	q := quotient(square, more)
	return summed(quotient(x, more), func(term *big.Float, n int) *big.Float {
		return quotient(product(product(term, q), whole(2*n)), whole(2*n+1))
	})
}

// pi is reckoned once.
func pi() *big.Float {
	if piTold == nil {
		piTold = machin()
	}
	return piTold
}

// machin is 16 times the angle of 1/5, less 4 times that of 1/239.
func machin() *big.Float {
	return difference(scaled(arcTangent(quotient(whole(1), whole(5))), 4), scaled(arcTangent(quotient(whole(1), whole(239))), 2))
}

// sine is x - x^3 / 6 + x^5 / 120 and so on.
func sine(x *big.Float) *big.Float {
	square := fresh().Neg(product(x, x))
	return summed(x, func(term *big.Float, n int) *big.Float {
		return quotient(product(term, square), whole(2*n*(2*n+1)))
	})
}

// unit is that of the last of q bits of a value.
func unit(value *big.Float, q int) *big.Float { return scaled(whole(1), value.MantExp(nil)-q) }

// off is by how many units an entry lies off a value other than 0.
func off(entry api.Dyad, value *big.Float, q int) *big.Float {
	apart := difference(float(entry), value)
	return quotient(apart.Abs(apart), unit(value, q))
}
