package dyad

import (
	"cmp"

	"ulp/api"
	"ulp/nat"
)

// number is a dyadic number in its one form, but that its exponent has no bounds. Its words may be another number's, but no argument's; they are never changed.
type number struct {
	neg   bool
	abs   api.Nat
	exp   int
	great bool // what was reckoned has more words than a natural: nothing else is told of it
}

// canonical brings a number to its one form. What is made here of one that is not right is never told.
func canonical(d api.Dyad) number {
	low, _ := nat.Low(d.Abs)
	abs, _, _ := nat.Shr(d.Abs, low)
	if len(abs) == 0 {
		return number{}
	}
	return number{neg: d.Neg, abs: abs, exp: d.Exp + low}
}

// reckoned is the number of an amount that nat told of, if it did.
func reckoned(neg bool, abs api.Nat, exp int, why api.Errno) number {
	if why != api.OK {
		return number{great: true}
	}
	return canonical(api.Dyad{Neg: neg, Abs: abs, Exp: exp})
}

// hasRoom tells whether the one form is right.
func (x number) hasRoom() bool { return !x.great && inBounds(x.exp) }

// told hands out the number with a list of words of its own: two parts of one answer may be made of one number.
func (x number) told() api.Dyad {
	return api.Dyad{Neg: x.neg, Abs: append(api.Nat(nil), x.abs...), Exp: x.exp}
}

func (x number) zero() bool { return len(x.abs) == 0 }

func (x number) itself() number { return x }

func (x number) negated() number {
	x.neg = !x.neg && !x.zero()
	return x
}

func (x number) amount() number {
	x.neg = false
	return x
}

func (x number) shifted(n int) number {
	if !x.zero() {
		x.exp += n
	}
	return x
}

// size is how many bits the odd amount has.
func (x number) size() int {
	n, _ := nat.Len(x.abs)
	return n
}

// top is the exponent of the first bit of a number other than 0.
func (x number) top() int { return x.exp + x.size() - 1 }

func (x number) sign() int {
	switch {
	case x.zero():
		return 0
	case x.neg:
		return -1
	default:
		return 1
	}
}

func (x number) against(y number) int {
	if x.sign() != y.sign() || x.zero() {
		return cmp.Compare(x.sign(), y.sign())
	}
	return x.sign() * x.amountAgainst(y)
}

// amountAgainst holds the amounts of two numbers other than 0 against each other.
func (x number) amountAgainst(y number) int {
	if x.top() != y.top() {
		return cmp.Compare(x.top(), y.top())
	}
	if x.exp < y.exp {
		return -y.amountAgainst(x)
	}
	// With one top, the amount that is brought to the lower exponent has as many bits as the other one.
	level, _ := nat.Shl(x.abs, x.exp-y.exp)
	order, _ := nat.Cmp(level, y.abs)
	return order
}

func (x number) times(y number) number {
	abs, why := nat.Mul(x.abs, y.abs)
	return reckoned(x.neg != y.neg, abs, x.exp+y.exp, why)
}

func (x number) plus(y number) number {
	switch {
	case x.zero():
		return y
	case y.zero():
		return x
	case x.exp < y.exp:
		return y.plus(x)
	case x.neg == y.neg:
		return x.together(y)
	case x.exp == y.exp:
		return x.levelApart(y)
	default:
		return x.apart(y)
	}
}

// together adds the amounts of two numbers of one sign; y's exponent is not above x's.
func (x number) together(y number) number {
	if x.exp == y.exp {
		return x.levelTogether(y)
	}
	level, why := nat.Shl(x.abs, x.exp-y.exp)
	if why != api.OK {
		return number{great: true}
	}
	sum, why := nat.Add(level, y.abs)
	return reckoned(x.neg, sum, y.exp, why)
}

// levelTogether adds two odd amounts of one exponent. Their sum is even: its half, which always has room, is reckoned.
func (x number) levelTogether(y number) number {
	half, _, _ := nat.Shr(x.abs, 1)
	other, _, _ := nat.Shr(y.abs, 1)
	sum, _ := nat.Add(half, other)
	sum, why := nat.Add(sum, nat.Of(1))
	return reckoned(x.neg, sum, x.exp+1, why)
}

// levelApart takes the amounts of two numbers of one exponent from each other.
func (x number) levelApart(y number) number {
	if order, _ := nat.Cmp(x.abs, y.abs); order < 0 {
		return y.levelApart(x)
	}
	rest, why := nat.Sub(x.abs, y.abs)
	return reckoned(x.neg, rest, x.exp, why)
}

// apart takes the amounts of two numbers from each other; y's exponent is below x's. Halves are reckoned, rounded down: x brought to y's exponent may have no room where the difference has it.
func (x number) apart(y number) number {
	half, why := nat.Shl(x.abs, x.exp-y.exp-1)
	if why != api.OK {
		return number{great: true}
	}
	other, _, _ := nat.Shr(y.abs, 1)
	neg := y.neg
	rest, why := nat.Sub(other, half)
	if why != api.OK { // x is the greater, by all but 1 of what its half is more
		neg = x.neg
		rest, _ = nat.Sub(half, other)
		rest, _ = nat.Sub(rest, nat.Of(1))
	}
	return twiceAndOne(neg, rest, y.exp)
}

func twiceAndOne(neg bool, half api.Nat, exp int) number {
	abs, why := nat.Shl(half, 1)
	if why != api.OK {
		return number{great: true}
	}
	abs, why = nat.Add(abs, nat.Of(1))
	return reckoned(neg, abs, exp, why)
}

// cut is the next number of at most p bits, down or up.
func (x number) cut(p int, up bool) number {
	spare := x.size() - p
	if spare <= 0 {
		return x
	}
	// An odd amount always loses something: away from 0 it is one more.
	return x.without(spare, up != x.neg)
}

// whole is the greatest whole number that is not above x.
func (x number) whole() number {
	if x.exp >= 0 {
		return x
	}
	return x.without(-x.exp, x.neg)
}

// rest is what x is more than the whole number.
func (x number) rest() number { return x.plus(x.whole().negated()) }

// without is the number without so many of its last bits; with more, its amount is then one of the new last bits greater.
func (x number) without(spare int, more bool) number {
	abs, _, why := nat.Shr(x.abs, spare)
	if more {
		abs, why = nat.Add(abs, nat.Of(1))
	}
	return reckoned(x.neg, abs, x.exp+spare, why)
}
