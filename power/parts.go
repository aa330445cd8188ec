package power

import (
	"ulp/api"
	"ulp/bits"
	"ulp/dyad"
	"ulp/expcore"
	"ulp/ival"
	"ulp/logcore"
)

const (
	// coreBits are asked of expcore behind those that are to be told; exponentBits are how many more an exponent of e has. Its amount is below 2^14, and less than 2^3 of its last bits are not known: this makes less than 2^-15 of the power's last bit.
	coreBits     = 16
	exponentBits = 32

	// roughBits are those with which a size is looked at.
	roughBits = 64
)

// parts are what a finite binary64 is made of: an odd whole number, times a power of 2. Those of 0 are all 0.
type parts struct {
	neg  bool
	odd  uint64
	twos int
}

// power is what a power is made of.
type power struct{ base, exponent parts }

// made tells what x to the power of y is made of; ErrWhole, if there is no value.
func made(x, y uint64) (power, api.Errno) {
	base, why := apart(x)
	if why != api.OK {
		return power{}, why
	}
	exponent, why := apart(y)
	if why != api.OK {
		return power{}, why
	}
	if base == (parts{}) || base.neg && !bits.Whole(y) {
		return power{}, api.ErrWhole
	}
	return power{base, exponent}, api.OK
}

// apart takes a finite binary64 apart.
func apart(x uint64) (parts, api.Errno) {
	d, why := dyad.From(x)
	if why != api.OK || dyad.Zero(d) {
		return parts{}, why
	}
	return parts{d.Neg, d.Abs[0], d.Exp}, api.OK
}

func (p parts) amount() parts {
	p.neg = false
	return p
}

func (p parts) dyad() api.Dyad {
	if p == (parts{}) {
		return api.Dyad{}
	}
	return api.Dyad{Neg: p.neg, Abs: api.Nat{p.odd}, Exp: p.twos}
}

// belowZero tells whether the value is.
func (p power) belowZero() bool {
	return p.base.neg && p.exponent.odd != 0 && p.exponent.twos == 0
}

// natural encloses the natural logarithm of the value's amount, with w bits.
func (p power) natural(w int) (api.Ival, api.Errno) {
	log, why := logcore.Log(p.base.amount().dyad(), w)
	if why != api.OK {
		return api.Ival{}, why
	}
	exponent := p.exponent.dyad()
	return ival.Mul(log, api.Ival{Lo: exponent, Hi: exponent}, w)
}

// beyond is -1, 0, 1, as the natural logarithm of the value's amount lies below -limit, within, above limit, or so near to one of these that it is no matter.
func (p power) beyond(limit int64) int {
	log, _ := p.natural(roughBits) // of a number above 0 there always is one
	below, _ := dyad.Cmp(log.Lo, dyad.Int(-limit))
	above, _ := dyad.Cmp(log.Hi, dyad.Int(limit))
	return min(below, 0) + max(above, 0)
}

// enclosed is the value's amount, within reach, to w bits: e's power rises, so each end of the exponent gives one of its own.
func (p power) enclosed(w int) (api.Ival, api.Errno) {
	log, why := p.natural(w + exponentBits)
	if why != api.OK {
		return api.Ival{}, why
	}
	low, why := expcore.Exp(log.Lo, w+coreBits)
	if why != api.OK {
		return api.Ival{}, why
	}
	high, why := expcore.Exp(log.Hi, w+coreBits)
	if why != api.OK {
		return api.Ival{}, why
	}
	return api.Ival{Lo: low.Lo, Hi: high.Hi}, api.OK
}
