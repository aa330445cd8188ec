package trig

import (
	"ulp/api"
	"ulp/dyad"
	"ulp/ival"
)

// nearTop is that of the greatest angles of which it is promised that the sine's enclosure lies below the angle t and above t - t^3 / 6.
const nearTop = -26

// besideAngle is what of a sine's enclosure lies between these two, if the angle, not below 0, is near 0. (Of dyadic numbers that are far nearer to 0 than any binary64 the bounds may have no room: there the enclosure stays as it is.)
func besideAngle(sine api.Ival, angle api.Dyad) api.Ival {
	top, why := dyad.Top(angle)
	if why != api.OK || top > nearTop {
		return sine
	}
	low, lowWhy := above(angle, top)
	high, highWhy := below(angle, top)
	if lowWhy != api.OK || highWhy != api.OK {
		return sine
	}
	if order, _ := dyad.Cmp(sine.Lo, low); order < 0 {
		sine.Lo = low
	}
	if order, _ := dyad.Cmp(sine.Hi, high); order > 0 {
		sine.Hi = high
	}
	return sine
}

// above is more than t - t^3 / 6, but less than the sine, which is about t^5 / 120 more: the sixth is by less than t^2 / 4096 too small.
func above(t api.Dyad, top int) (api.Dyad, api.Errno) {
	sixth, why := ival.Div(point(dyad.Int(1)), point(dyad.Int(6)), 10-2*top)
	if why != api.OK {
		return api.Dyad{}, why
	}
	t, why = dyad.Cut(t, fewBits(top), true)
	if why != api.OK {
		return api.Dyad{}, why
	}
	return lessCube(t, sixth.Lo)
}

// below is less than t, but more than the sine: an eighth is less than a sixth.
func below(t api.Dyad, top int) (api.Dyad, api.Errno) {
	t, why := dyad.Cut(t, fewBits(top), false)
	if why != api.OK {
		return api.Dyad{}, why
	}
	return lessCube(t, api.Dyad{Abs: api.Nat{1}, Exp: -3})
}

// fewBits are enough of an angle: what lies behind them is less than t^5 / 32768.
func fewBits(top int) int { return 16 - 4*top }

// lessCube is t less its third power times a number.
func lessCube(t, times api.Dyad) (api.Dyad, api.Errno) {
	for range 3 {
		var why api.Errno
		if times, why = dyad.Mul(times, t); why != api.OK {
			return api.Dyad{}, why
		}
	}
	return dyad.Sub(t, times)
}

func point(d api.Dyad) api.Ival { return api.Ival{Lo: d, Hi: d} }
