package ziv

import (
	"ulp/api"
	"ulp/dyad"
	"ulp/ival"
)

// besideSlope encloses the angle of a point by the quotient q of what it goes up and along: of q from -1/2 to 1/2 it lies between q - q^3 / 2 and q - q^3 / 4, being q - q^3 / 3 and at most q^5 / 5. Where q lies halfway between two subnormal numbers, the angle is so near to it that MaxBits bits may not tell the two apart; these bounds do.
func besideSlope(up, along uint64) (api.Ival, api.Errno) {
	q, why := slope(up, along)
	if why != api.OK {
		return api.Ival{}, why
	}
	far, why := lessPart(q, 1)
	if why != api.OK {
		return api.Ival{}, why
	}
	near, why := lessPart(q, 2)
	if why != api.OK {
		return api.Ival{}, why
	}
	return ival.Join(far, near)
}

// slope is the quotient, if the point lies to the right and the quotient is from -1/2 to 1/2; else ErrWhole.
func slope(up, along uint64) (api.Ival, api.Errno) {
	high, why := dyad.From(up)
	if why != api.OK {
		return api.Ival{}, why
	}
	wide, why := dyad.From(along)
	if why != api.OK {
		return api.Ival{}, why
	}
	q, why := ival.Div(point(high), point(wide), api.MaxWork)
	if why != api.OK || wide.Neg || !ival.Within(q, halves()) {
		return api.Ival{}, api.ErrWhole
	}
	return q, api.OK
}

// lessPart is q less its third power, halved so often.
func lessPart(q api.Ival, halvings int) (api.Ival, api.Errno) {
	cube := q
	for range 2 {
		var why api.Errno
		if cube, why = ival.Mul(cube, q, api.MaxWork); why != api.OK {
			return api.Ival{}, why
		}
	}
	part, why := ival.Scale(cube, -halvings)
	if why != api.OK {
		return api.Ival{}, why
	}
	return ival.Sub(q, part, api.MaxWork)
}

// halves is all numbers from -1/2 to 1/2.
func halves() api.Ival {
	return api.Ival{Lo: api.Dyad{Neg: true, Abs: api.Nat{1}, Exp: -1}, Hi: api.Dyad{Abs: api.Nat{1}, Exp: -1}}
}

func point(d api.Dyad) api.Ival { return api.Ival{Lo: d, Hi: d} }
