package fixed

import (
	"ulp/api"
	"ulp/nat"
)

// Number is Abs times 2^Exp: not below 0, of any exponent. What is reckoned with numbers is the next one of w bits to what it truly is, down or up: so it does not fall where that rises, however near two numbers lie to one another, or to a power of 2.
type Number struct {
	Abs api.Nat
	Exp int
}

// Of is the amount of a right dyadic number.
func Of(d api.Dyad) Number {
	abs, _ := nat.Norm(d.Abs)
	return Number{Abs: abs, Exp: d.Exp}
}

// Whole is a whole number.
func Whole(n uint64) Number { return Number{Abs: nat.Of(n)} }

// Zero tells whether it is 0.
func (x Number) Zero() bool { return x.size() == 0 }

// Scale is x times 2^n.
func (x Number) Scale(n int) Number { return Number{Abs: x.Abs, Exp: x.Exp + n} }

// Units is how many units of 2^-w the number has, rounded down or up.
func (x Number) Units(w int, up bool) api.Nat { return shifted(x.Abs, x.Exp+w, up) }

// Cut is the next number of at most w bits.
func (x Number) Cut(w int, up bool) Number {
	size := x.size()
	switch {
	case size == 0: // with any exponent it is 0: one that has gone far is not handed on
		return Number{}
	case size <= w:
		return x
	default:
		return Number{Abs: shifted(x.Abs, w-size, up), Exp: x.Exp + size - w}
	}
}

// Plus is the sum.
func (x Number) Plus(y Number, w int, up bool) Number {
	switch {
	case x.Zero():
		return y.Cut(w, up)
	case y.Zero():
		return x.Cut(w, up)
	case x.Top() < y.Top():
		x, y = y, x
	}
	// Above x, no number of w bits lies nearer than four times 2^least: with all that is less than 2^least the sum is cut alike, so one of few bits is taken.
	least := min(x.Exp, x.Top()-w) - 2
	if y.Top() < least {
		y = Whole(1).Scale(least)
	}
	exp := min(x.Exp, y.Exp)
	return Number{Abs: Plus(x.Units(-exp, false), y.Units(-exp, false)), Exp: exp}.Cut(w, up)
}

// Times is the product.
func (x Number) Times(y Number, w int, up bool) Number {
	return Number{Abs: Times(x.Abs, y.Abs), Exp: x.Exp + y.Exp}.Cut(w, up)
}

// Over is the quotient of the next numbers of w bits: others may be too great to be divided. Rounded down, it is that of x down and y up.
func (x Number) Over(y Number, w int, up bool) Number {
	x, y = x.Cut(w, up), y.Cut(w, !up)
	n := max(0, w+1+y.size()-x.size())
	quotient, rest, _ := nat.Div(Shift(x.Abs, n), y.Abs)
	return Number{Abs: raised(quotient, up && len(rest) > 0), Exp: x.Exp - n - y.Exp}.Cut(w, up)
}

// Root is the square root.
func (x Number) Root(w int, up bool) Number {
	n := max(0, 2*w+2-x.size())
	if (x.Exp-n)%2 != 0 {
		n++
	}
	root, rest, _ := nat.Sqrt(Shift(x.Abs, n))
	return Number{Abs: raised(root, up && len(rest) > 0), Exp: (x.Exp - n) / 2}.Cut(w, up)
}

func (x Number) size() int {
	n, _ := nat.Len(x.Abs)
	return n
}

// Top is the exponent of the first bit of a number other than 0.
func (x Number) Top() int { return x.Exp + x.size() - 1 }

// raised is a natural, or one more.
func raised(a api.Nat, more bool) api.Nat {
	if more {
		return Plus(a, nat.Of(1))
	}
	return a
}
