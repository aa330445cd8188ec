package expfam

import (
	"ulp/api"
	"ulp/consts"
	"ulp/dyad"
	"ulp/expcore"
	"ulp/ival"
)

const (
	// coreBits are asked of expcore behind those that are to be told; exponentBits are how many more an exponent of e has. Its amount is below 2^14, and less than 2^3 of its last bits are not known: this makes less than 2^-15 of the power's last bit.
	coreBits     = 16
	exponentBits = 32

	// leastTop is that of the nearest exponents to 0 that are looked at: with others the power, even of 10, is less than 2^-MaxCore away from 1.
	leastTop = -api.MaxCore - 2
)

// power encloses the base's power of a number within reach.
func (f function) power(t api.Dyad, p int) (api.Ival, api.Errno) {
	if top, why := dyad.Top(t); why == api.OK && top < leastTop { // (0 has no top)
		return beside(1, -api.MaxCore, t.Neg)
	}
	return f.over(accuracy(p+coreBits).power, t, p)
}

// lessOne encloses that less 1.
func (f function) lessOne(t api.Dyad, p int) (api.Ival, api.Errno) {
	return f.over(accuracy(p+coreBits).lessOne, t, p)
}

// over encloses what a way that rises makes of the exponent of e, of which two ends are known: each end goes by itself.
func (f function) over(way func(y api.Dyad) (api.Ival, api.Errno), t api.Dyad, p int) (api.Ival, api.Errno) {
	y, why := f.exponent(t, p+exponentBits)
	if why != api.OK {
		return api.Ival{}, why
	}
	low, why := way(y.Lo)
	if order, _ := dyad.Cmp(y.Lo, y.Hi); why != api.OK || order == 0 {
		return low, why
	}
	high, why := way(y.Hi)
	if why != api.OK {
		return api.Ival{}, why
	}
	return api.Ival{Lo: low.Lo, Hi: high.Hi}, api.OK
}

// exponent encloses that to which e is raised, with w bits; of the base e it is t itself.
func (f function) exponent(t api.Dyad, w int) (api.Ival, api.Errno) {
	point, why := ival.Point(t)
	if why != api.OK || f.log == api.ConstNone {
		return point, why
	}
	log, why := consts.Const(f.log, w)
	if why != api.OK {
		return api.Ival{}, why
	}
	return ival.Mul(point, log, w)
}

// accuracy is how many bits are asked of expcore.
type accuracy int

// power is e^y.
func (a accuracy) power(y api.Dyad) (api.Ival, api.Errno) {
	if order, _ := dyad.Cmp(y, dyad.Int(1)); y.Neg || order >= 0 {
		return expcore.Exp(y, int(a))
	}
	less, why := a.lessOne(y)
	if why != api.OK {
		return api.Ival{}, why
	}
	// Nothing is cut off what it is more than 1: so powers of different bases stay apart, however near 1 they are.
	return ival.Add(less, api.Ival{Lo: dyad.Int(1), Hi: dyad.Int(1)}, api.MaxWork)
}

// lessOne is e^y - 1.
func (a accuracy) lessOne(y api.Dyad) (api.Ival, api.Errno) { return expcore.Expm1(y, int(a)) }

// beside lies between a whole number and what is 2^exp more, or less.
func beside(n int64, exp int, below bool) (api.Ival, api.Errno) {
	whole := dyad.Int(n)
	near, why := dyad.Add(whole, api.Dyad{Neg: below, Abs: api.Nat{1}, Exp: exp})
	switch {
	case why != api.OK:
		return api.Ival{}, why
	case below:
		return api.Ival{Lo: near, Hi: whole}, api.OK
	default:
		return api.Ival{Lo: whole, Hi: near}, api.OK
	}
}
