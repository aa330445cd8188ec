package consts_test

import (
	"math/big"
	"slices"
	"strings"
	"sync"

	"ulp/api"
)

// knownBits is in how fine units the tests know the constants: far finer than any enclosure that may be asked for.
const knownBits = 9000

// known is between which numbers a constant lies, in units of 2^-knownBits. It is reckoned by other series than the program's.
type known struct{ lo, hi *big.Int }

var constants = sync.OnceValue(func() map[api.ConstKind]known {
	ln2 := logSum(2)
	made := map[api.ConstKind]known{
		api.ConstPi:   around(piSum()),
		api.ConstLn2:  around(ln2),
		api.ConstLn10: around(new(big.Int).Add(new(big.Int).Mul(big.NewInt(3), ln2), logSum(5))), // 8 times 5/4
		api.ConstE:    around(eSum()),
	}
	made[api.ConstInvPi] = made[api.ConstPi].inverse()
	made[api.ConstInvLn2] = made[api.ConstLn2].inverse()
	made[api.ConstInvLn10] = made[api.ConstLn10].inverse()
	return made
})

func constant(k api.ConstKind) known { return constants()[k] }

// around widens a sum by more than what the roundings of its terms can be.
func around(sum *big.Int) known {
	away := big.NewInt(1 << 20)
	return known{new(big.Int).Sub(sum, away), new(big.Int).Add(sum, away)}
}

func (c known) inverse() known {
	one := unit(2 * knownBits)
	hi := new(big.Int).Quo(one, c.lo)
	return known{new(big.Int).Quo(one, c.hi), hi.Add(hi, big.NewInt(1))}
}

func unit(n uint) *big.Int { return new(big.Int).Lsh(big.NewInt(1), n) }

// over is a unit, so many times, divided by n.
func over(times *big.Int, n int64) *big.Int { return new(big.Int).Quo(times, big.NewInt(n)) }

// piSum goes by sixteenths: 4 / (8 k + 1) - 2 / (8 k + 4) - 1 / (8 k + 5) - 1 / (8 k + 6), each divided by 16^k.
func piSum() *big.Int {
	sum, power := new(big.Int), unit(knownBits)
	for k := int64(0); power.Sign() > 0; k++ {
		sum.Add(sum, over(new(big.Int).Lsh(power, 2), 8*k+1))
		sum.Sub(sum, over(new(big.Int).Lsh(power, 1), 8*k+4))
		sum.Sub(sum, over(power, 8*k+5))
		sum.Sub(sum, over(power, 8*k+6))
		power.Rsh(power, 4)
	}
	return sum
}

// logSum is the logarithm of n / (n - 1): the sum of 1 / (k n^k).
func logSum(n int64) *big.Int {
	sum, power := new(big.Int), over(unit(knownBits), n)
	for k := int64(1); power.Sign() > 0; k++ {
		sum.Add(sum, over(power, k))
		power = over(power, n)
	}
	return sum
}

// eSum goes from the last term back: 1 + 1/1 (1 + 1/2 (1 + 1/3 ( .. ))).
func eSum() *big.Int {
	one := unit(knownBits)
	sum := new(big.Int).Set(one)
	for k := int64(1500); k > 0; k-- {
		sum = over(sum, k)
		sum.Add(sum, one)
	}
	return sum
}

// cutBits is the constant times 2^n, rounded down.
func (c known) cutBits(n int) *big.Int { return c.cut(unit(uint(n))) }

// cutDigits is the text of n digits behind the point.
func (c known) cutDigits(n int) string {
	digits := c.cut(new(big.Int).Exp(big.NewInt(10), big.NewInt(int64(n)), nil)).String()
	digits = strings.Repeat("0", max(0, n+1-len(digits))) + digits
	return digits[:len(digits)-n] + "." + digits[len(digits)-n:]
}

// cut is the constant times a factor, rounded down.
func (c known) cut(factor *big.Int) *big.Int {
	lo := new(big.Int).Mul(c.lo, factor)
	hi := new(big.Int).Mul(c.hi, factor)
	if lo.Rsh(lo, knownBits).Cmp(hi.Rsh(hi, knownBits)) != 0 {
		panic("the tests know too few bits")
	}
	return lo
}

func natural(a api.Nat) *big.Int {
	n := new(big.Int)
	for _, w := range slices.Backward(a) {
		n.Lsh(n, 64).Or(n, new(big.Int).SetUint64(w))
	}
	return n
}

// units is how many units a number is; its exponent is not below theirs.
func units(d api.Dyad) *big.Int {
	n := natural(d.Abs)
	if d.Neg {
		n.Neg(n)
	}
	return n.Lsh(n, uint(d.Exp+knownBits))
}
