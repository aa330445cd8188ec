package alg

import (
	"ulp/api"
	"ulp/dyad"
	"ulp/nat"
	"ulp/round"
)

// rootBits is about how many bits of a root are told: more than a point of change has, 54 at most, so that the root and a sticky bit behind it lie on the same side of each such point as the root and all that follows.
const rootBits = 64

// quantity is a real number above 0, told by how many units of 2^-n it has, rounded down, and whether something was lost.
type quantity struct {
	top   int // 2^top is at most twice the number
	units func(n int) (a api.Nat, lost bool)
}

// amount is that of a dyadic number other than 0.
func amount(d api.Dyad) quantity {
	top, _ := dyad.Top(d)
	return quantity{top, func(n int) (api.Nat, bool) { return shift(d.Abs, d.Exp+n) }}
}

// inverse is 1 divided by a dyadic number above 0.
func inverse(d api.Dyad) quantity {
	top, _ := dyad.Top(d)
	return quantity{-top, func(n int) (api.Nat, bool) {
		// The quotient, of twice rootBits or so, makes the power of 2 longer than the divisor: n - d.Exp is above 0.
		dividend, _ := nat.Shl(nat.Of(1), n-d.Exp)
		quotient, rest, _ := nat.Div(dividend, d.Abs)
		return quotient, len(rest) > 0
	}}
}

// shift is a natural times 2^n, n of either sign, rounded down, and whether something was lost.
func shift(a api.Nat, n int) (api.Nat, bool) {
	if n < 0 {
		a, lost, _ := nat.Shr(a, -n)
		return a, lost
	}
	a, _ = nat.Shl(a, n)
	return a, false
}

// shifted is the quantity in units of 2^-n, so many that their root of a degree has as many bits as are to be told. The degree divides n: so the root of a unit is a power of 2.
func (q quantity) shifted(degree int) (a api.Nat, n int, lost bool) {
	n = degree*rootBits - q.top
	n -= n % degree
	a, lost = q.units(n)
	return a, n, lost
}

// squareRoot rounds that of a quantity.
func squareRoot(of quantity) (api.Result, api.Errno) {
	a, n, lost := of.shifted(2)
	return teller(false, -n/2, lost)(nat.Sqrt(a))
}

// teller rounds a root that it is handed, in units of 2^exp, with what is left of the number of which it is one. If something is left there, or was lost ahead, the root is more than it says: a sticky bit behind its last one keeps that.
func teller(neg bool, exp int, lost bool) func(root, rest api.Nat, why api.Errno) (api.Result, api.Errno) {
	return func(root, rest api.Nat, why api.Errno) (api.Result, api.Errno) {
		if why != api.OK {
			return api.Result{}, why
		}
		abs, _ := nat.Shl(root, 1)
		if lost || len(rest) > 0 {
			abs[0] |= 1
		}
		return round.Near(api.Dyad{Neg: neg, Abs: abs, Exp: exp - 1})
	}
}
