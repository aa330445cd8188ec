package reduce

import (
	"ulp/api"
	"ulp/consts"
	"ulp/dyad"
	"ulp/ival"
)

// spareBits are reckoned behind those that are asked for: no binary64 lies so near to a multiple of a quarter of pi that these are used up.
const spareBits = 96

// halfOf tells half of a constant, enclosed to as many bits as it is asked for.
func halfOf(k api.ConstKind) func(bits int) api.Ival {
	return func(bits int) api.Ival {
		v, _ := consts.Const(k, bits)
		v, _ = ival.Scale(v, -1)
		return v
	}
}

// quarterOf is the number of right angles next to an amount below 2^1024, and what is left, with as many bits of the right angle as it takes. MaxWork bits are enough unless x lies nearer than 2^-2048 to a multiple of half of it: they tell all multiples below 2^1024 to some 2^-7160, and with that what is left to 5,100 bits.
func quarterOf(x api.Dyad, p int, rightAngle func(bits int) api.Ival) (api.Dyad, api.Ival, api.Errno) {
	if top(x) < -1 { // so it is below half a right angle
		v, why := ival.Cut(point(x), p+spareBits)
		return api.Dyad{}, v, why
	}
	for bits := p + spareBits + top(x); ; bits = min(2*bits, api.MaxWork) {
		n, rest, known := taken(x, rightAngle(bits), p+spareBits, bits)
		switch {
		case known && ival.Narrow(rest, p):
			return n, rest, api.OK
		case bits == api.MaxWork:
			return api.Dyad{}, api.Ival{}, api.ErrHard
		}
	}
}

// taken is how many times the right angle is to be taken from x, and w bits of what is left; false, if it is not known well enough to tell how often. (From 1/2 to 2^1024 all that is reckoned has room.)
func taken(x api.Dyad, rightAngle api.Ival, w, bits int) (api.Dyad, api.Ival, bool) {
	often, _ := ival.Div(point(x), rightAngle, bits)
	n, _ := nearest(often.Lo)
	other, _ := nearest(often.Hi)
	if order, _ := dyad.Cmp(n, other); order != 0 {
		return api.Dyad{}, api.Ival{}, false
	}
	all, _ := ival.Mul(point(n), rightAngle, bits)
	rest, _ := ival.Sub(point(x), all, w)
	half, _ := dyad.Shift(rightAngle.Hi, -1)
	return n, within(rest, half), true
}

// within is what of an enclosure is no more than a bound in its amount, as what is enclosed never is.
func within(v api.Ival, bound api.Dyad) api.Ival {
	if order, _ := dyad.Cmp(v.Hi, bound); order > 0 {
		v.Hi = bound
	}
	bound.Neg = true
	if order, _ := dyad.Cmp(v.Lo, bound); order < 0 {
		v.Lo = bound
	}
	return v
}

func point(d api.Dyad) api.Ival { return api.Ival{Lo: d, Hi: d} }
