// Package fixed reckons with naturals as numbers at a fixed point, in units of a power of 2, and with numbers of so many bits at any point, each rounded down or up. It tells no errors: the layers whose series it sums see to it that all they hand in, and all that comes of it, stays far below the size at which nat refuses.
package fixed

import (
	"ulp/api"
	"ulp/nat"
)

// One is 1 in units of 2^-w.
func One(w int) api.Nat { return Shift(nat.Of(1), w) }

// Plus is the sum.
func Plus(a, b api.Nat) api.Nat {
	c, _ := nat.Add(a, b)
	return c
}

// Less is the difference of a number and one that is not above it.
func Less(a, b api.Nat) api.Nat {
	c, _ := nat.Sub(a, b)
	return c
}

// Times is the product.
func Times(a, b api.Nat) api.Nat {
	c, _ := nat.Mul(a, b)
	return c
}

// Over is the quotient by a number other than 0, rounded down.
func Over(a, b api.Nat) api.Nat {
	c, _, _ := nat.Div(a, b)
	return c
}

// Shift is a times 2^n, n of either sign, rounded down.
func Shift(a api.Nat, n int) api.Nat {
	if n >= 0 {
		c, _ := nat.Shl(a, n)
		return c
	}
	c, _, _ := nat.Shr(a, -n)
	return c
}

// shifted is a times 2^n, n of either sign, rounded down or up.
func shifted(a api.Nat, n int, up bool) api.Nat {
	if n >= 0 {
		return Shift(a, n)
	}
	c, lost, _ := nat.Shr(a, -n)
	return raised(c, up && lost)
}
