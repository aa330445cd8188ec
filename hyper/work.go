package hyper

import (
	"ulp/api"
	"ulp/dyad"
	"ulp/ival"
	"ulp/logcore"
)

// work reckons with enclosures, outward to so many bits. It keeps the first error: so a formula may be written as one.
type work struct {
	bits int
	why  api.Errno
}

func (w *work) keep(v api.Ival, why api.Errno) api.Ival {
	if w.why == api.OK {
		w.why = why
	}
	return v
}

// answer is what was reckoned, or the first error alone.
func (w *work) answer(v api.Ival) (api.Ival, api.Errno) {
	if w.why != api.OK {
		return api.Ival{}, w.why
	}
	return v, api.OK
}

func (w *work) plus(a, b api.Ival) api.Ival { return w.keep(ival.Add(a, b, w.bits)) }

func (w *work) minus(a, b api.Ival) api.Ival { return w.keep(ival.Sub(a, b, w.bits)) }

func (w *work) times(a, b api.Ival) api.Ival { return w.keep(ival.Mul(a, b, w.bits)) }

func (w *work) over(a, b api.Ival) api.Ival { return w.keep(ival.Div(a, b, w.bits)) }

func (w *work) root(a api.Ival) api.Ival { return w.keep(ival.Sqrt(a, w.bits)) }

func (w *work) scale(a api.Ival, n int) api.Ival { return w.keep(ival.Scale(a, n)) }

func (w *work) half(a api.Ival) api.Ival { return w.scale(a, -1) }

// square is that of an enclosure, beside 1: of what is nearer to 0 than the last bit shows, no more is told than that. (It may have no room.)
func (w *work) square(a api.Ival) api.Ival {
	if top, why := dyad.Top(a.Hi); why == api.OK && top < -w.bits { // (0 has no top)
		return api.Ival{Hi: api.Dyad{Abs: api.Nat{1}, Exp: -w.bits}}
	}
	return w.times(a, a)
}

// exactly is the sum of numbers that are so few bits apart that nothing is cut off.
func (w *work) exactly(a, b api.Ival) api.Ival { return w.keep(ival.Add(a, b, api.MaxWork)) }

// log is the logarithm of 1 and an enclosure of numbers, not below 0: the sum is exact, so nothing is lost near 0.
func (w *work) log(more api.Ival) api.Ival {
	return w.keep(logcore.Over(w.exactly(whole(1), more), w.bits))
}

func point(d api.Dyad) api.Ival { return api.Ival{Lo: d, Hi: d} }

func whole(n int64) api.Ival { return point(dyad.Int(n)) }
