package hyper

import (
	"ulp/api"
	"ulp/dyad"
	"ulp/expcore"
	"ulp/ival"
	"ulp/logcore"
)

// flat is a number from which on the tangent is nearer to 1 than any end shows.
const flat = api.MaxArg / 2

// odd goes by a number's amount, and gives what comes of it the number's sign; of 0 it is 0.
func odd(amounts way) way {
	return func(x number) (api.Ival, api.Errno) {
		if dyad.Zero(x.value) {
			return api.Ival{}, api.OK
		}
		amount, why := dyad.Abs(x.value)
		if why != api.OK {
			return api.Ival{}, why
		}
		v, why := amounts(number{amount, x.bits})
		if why != api.OK || !x.value.Neg {
			return v, why
		}
		return ival.Neg(v)
	}
}

// sine is that of an amount above 0: half of what e's power is more than 1, and of what 1 divided by it is less.
func (x number) sine() (api.Ival, api.Errno) {
	w := work{bits: x.bits}
	more := w.keep(expcore.Expm1(x.value, x.bits))
	// With m the one, the other is 1 / (1 + 1 / m): each step goes one way, so neither end falls as the amount rises.
	less := w.over(whole(1), w.plus(whole(1), w.over(whole(1), more)))
	return w.answer(atLeast(w.half(w.plus(more, less)), x.value))
}

// cosine is that of any number: its square is 1 more than the sine's.
func (x number) cosine() (api.Ival, api.Errno) {
	sine, why := odd(number.sine)(x)
	if why != api.OK {
		return api.Ival{}, why
	}
	return cosineBeside(sine, x.bits)
}

// cosineBeside is the cosine that goes with a sine.
func cosineBeside(sine api.Ival, bits int) (api.Ival, api.Errno) {
	w := work{bits: bits}
	return w.answer(w.root(w.plus(whole(1), w.square(sine))))
}

// tangent is that of an amount above 0: with m what e's power of twice the amount is more than 1, it is 1 / (1 + 2 / m).
func (x number) tangent() (api.Ival, api.Errno) {
	w := work{bits: x.bits}
	amount := x.value
	if x.against(flat) > 0 {
		amount = dyad.Int(flat)
	}
	twice := w.scale(point(amount), 1)
	more := w.keep(expcore.Expm1(twice.Lo, x.bits))
	return w.answer(atMost(w.over(whole(1), w.plus(whole(1), w.over(whole(2), more))), x.value))
}

// ofSine is the number, above 0, of a sine s: the logarithm of 1 and s and s^2 / (1 + c), c being the cosine.
func (x number) ofSine() (api.Ival, api.Errno) {
	w := work{bits: x.bits}
	sine := point(x.value)
	square := w.times(sine, sine)
	cosine := w.root(w.plus(whole(1), square))
	more := w.plus(sine, w.over(square, w.plus(whole(1), cosine)))
	return w.answer(atMost(w.log(more), x.value))
}

// ofCosine is the number, from 0 on, of a cosine 1 + u: the logarithm of 1 and u and the sine, which is the root of u (u + 2).
func (x number) ofCosine() (api.Ival, api.Errno) {
	w := work{bits: x.bits}
	above := w.exactly(point(x.value), whole(-1))
	sine := w.root(w.times(above, w.exactly(above, whole(2))))
	return w.answer(w.log(w.plus(above, sine)))
}

// ofTangent is the number, above 0, of a tangent t: half of what the logarithm of 1 + t is more than that of 1 - t.
func (x number) ofTangent() (api.Ival, api.Errno) {
	w := work{bits: x.bits}
	less, why := dyad.Neg(x.value)
	if why != api.OK {
		return api.Ival{}, why
	}
	above, below := w.keep(logcore.Log1p(x.value, x.bits)), w.keep(logcore.Log1p(less, x.bits))
	return w.answer(atLeast(w.half(w.minus(above, below)), x.value))
}

// atLeast is what of an enclosure of an amount is not below another one, as the amount never is.
func atLeast(v api.Ival, least api.Dyad) api.Ival {
	if order, _ := dyad.Cmp(v.Lo, least); order < 0 {
		v.Lo = least
	}
	return v
}

// atMost is what of it is not above another one.
func atMost(v api.Ival, most api.Dyad) api.Ival {
	if order, _ := dyad.Cmp(v.Hi, most); order > 0 {
		v.Hi = most
	}
	return v
}
