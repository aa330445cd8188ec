package power

import (
	mathbits "math/bits"

	"ulp/api"
	"ulp/dyad"
	"ulp/nat"
)

// exact is the value's amount, if it is of few bits. An exponent is an odd number of times 2^-k: as an odd number shares no factor with 2^k, the value is only rational where the base is the 2^k-th power of a dyadic number.
func (p power) exact() (api.Dyad, bool) {
	if p.base.amount() == (parts{odd: 1}) || p.exponent == (parts{}) {
		return dyad.Int(1), true
	}
	times, within := p.exponent.times()
	if !within {
		return api.Dyad{}, false
	}
	root, is, _ := Root(p.base.amount().dyad(), max(0, -p.exponent.twos))
	if is && p.exponent.neg {
		root, is = inverse(root)
	}
	if !is {
		return api.Dyad{}, false
	}
	d, why := Whole(root, times)
	return d, why == api.OK
}

// times is how often an exponent has the root of the base as a factor, whichever way; false, if that is more than MaxExp times: then a power is of few bits only if it is 1.
func (p parts) times() (int, bool) {
	twos := max(0, p.twos)
	if p.odd > api.MaxExp>>twos {
		return 0, false
	}
	return int(p.odd) << twos, true
}

// inverse is 1 divided by a number above 0 in its one form, if that is dyadic: only of powers of 2 it is.
func inverse(d api.Dyad) (api.Dyad, bool) {
	if size, why := dyad.Size(d); why != api.OK || size != 1 {
		return api.Dyad{}, false
	}
	return api.Dyad{Abs: nat.Of(1), Exp: -d.Exp}, true
}

// isOwnSquare tells whether a number from 0 on in its one form is 0 or 1: their roots of any degree are they themselves.
func isOwnSquare(d api.Dyad) bool {
	size, _ := nat.Len(d.Abs)
	return size <= 1 && d.Exp == 0
}

// squareRoot is that of a number from 0 on in its one form, if it is dyadic, in its one form too.
func squareRoot(d api.Dyad) (api.Dyad, bool) {
	if d.Exp%2 != 0 {
		return api.Dyad{}, false
	}
	root, rest, why := nat.Sqrt(d.Abs)
	if why != api.OK || len(rest) > 0 {
		return api.Dyad{}, false
	}
	return api.Dyad{Abs: root, Exp: d.Exp / 2}, true
}

// raised is a right number to the power of n, n being gone through bit by bit from the first: the power is squared, and multiplied where the bit is 1. It never has fewer bits, nor an exponent nearer to 0, than it had: so it ends where it becomes one of more than few bits.
func raised(d api.Dyad, n int) (api.Dyad, api.Errno) {
	power := dyad.Int(1)
	size := mathbits.Len(uint(n))
	for i := range size {
		next, why := dyad.Mul(power, power)
		if why == api.OK && n>>(size-1-i)&1 == 1 {
			next, why = dyad.Mul(next, d)
		}
		if why != api.OK || !isFew(next) {
			return api.Dyad{}, api.ErrMany
		}
		power = next
	}
	return power, api.OK
}

// isFew tells whether a number that has room is 0, or of few bits.
func isFew(d api.Dyad) bool {
	size, why := dyad.Size(d)
	return why != api.OK || size <= api.MaxFew
}
