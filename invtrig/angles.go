package invtrig

import (
	"ulp/api"
	"ulp/atancore"
	"ulp/consts"
	"ulp/dyad"
	"ulp/ival"
)

// measure is what an angle in radians is told in.
type measure func(angle api.Ival, bits int) (api.Ival, api.Errno)

func radians(angle api.Ival, bits int) (api.Ival, api.Errno) { return angle, api.OK }

func halfTurns(angle api.Ival, bits int) (api.Ival, api.Errno) {
	pi, why := consts.Const(api.ConstPi, bits)
	if why != api.OK {
		return api.Ival{}, why
	}
	return ival.Div(angle, pi, bits)
}

// odd goes by a number's amount, and gives what comes of it the number's sign.
func odd(amounts way) way {
	return func(of api.Dyad, bits int) (api.Ival, api.Errno) {
		amount, why := dyad.Abs(of)
		if why != api.OK {
			return api.Ival{}, why
		}
		v, why := amounts(amount, bits)
		if why != api.OK || !of.Neg {
			return v, why
		}
		return ival.Neg(v)
	}
}

// ofSine is the angle, at most a right one, of a sine that is not below 0.
func ofSine(sine api.Dyad, bits int) (api.Ival, api.Errno) {
	cosine, why := otherSide(sine, bits)
	if why != api.OK {
		return api.Ival{}, why
	}
	return over(cosine, func(side api.Dyad) (api.Ival, api.Errno) { return atancore.Angle(sine, side, bits) })
}

// ofCosine is the angle from 0 to half a turn of a cosine.
func ofCosine(cosine api.Dyad, bits int) (api.Ival, api.Errno) {
	sine, why := otherSide(cosine, bits)
	if why != api.OK {
		return api.Ival{}, why
	}
	return over(sine, func(side api.Dyad) (api.Ival, api.Errno) { return atancore.Angle(side, cosine, bits) })
}

// otherSide is the amount of the cosine that goes with a sine, or of the sine with a cosine: the root of 1 less the square, which is reckoned exactly, so that nothing is lost next to 1. ErrWhole, if there is none.
func otherSide(side api.Dyad, bits int) (api.Ival, api.Errno) {
	square, why := dyad.Mul(side, side)
	if why != api.OK {
		return api.Ival{}, why
	}
	rest, why := dyad.Sub(dyad.Int(1), square)
	if why != api.OK {
		return api.Ival{}, why
	}
	v, why := ival.Sqrt(api.Ival{Lo: rest, Hi: rest}, bits)
	if why == api.ErrLess {
		return api.Ival{}, api.ErrWhole
	}
	return v, why
}

// over has in it what is made of all numbers of an enclosure by what rises with them, or falls.
func over(v api.Ival, made func(api.Dyad) (api.Ival, api.Errno)) (api.Ival, api.Errno) {
	low, why := made(v.Lo)
	if order, _ := dyad.Cmp(v.Lo, v.Hi); why != api.OK || order == 0 {
		return low, why
	}
	high, why := made(v.Hi)
	if why != api.OK {
		return api.Ival{}, why
	}
	return ival.Join(low, high)
}
