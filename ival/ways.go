package ival

import "ulp/api"

// way is what is done with two enclosures, and when it may not be. The ends of what is made may have any exponent; they stand for real numbers that have the same neighbours of p bits.
type way struct {
	refusal func(a, b api.Ival) api.Errno
	made    func(a, b api.Ival, p int) (api.Ival, api.Errno)
}

func (w way) done(a, b api.Ival, p int) (api.Ival, api.Errno) {
	if !right(a, b) || !workable(p) {
		return api.Ival{}, api.ErrRange
	}
	if why := w.refusal(a, b); why != api.OK {
		return api.Ival{}, why
	}
	v, why := w.made(a, b, p)
	if why != api.OK {
		return api.Ival{}, why
	}
	return outward(v, p)
}

func adding() way { return way{refusal: never, made: sums} }

func subtracting() way {
	return way{
		refusal: never,
		made:    func(a, b api.Ival, p int) (api.Ival, api.Errno) { return sums(a, turned(b), p) },
	}
}

func multiplying() way { return way{refusal: never, made: crosswise(product)} }

func dividing() way { return way{refusal: divisorZero, made: crosswise(quotient)} }

func never(a, b api.Ival) api.Errno { return api.OK }

func divisorZero(a, b api.Ival) api.Errno {
	if sign(b.Lo) <= 0 && sign(b.Hi) >= 0 {
		return api.ErrZero
	}
	return api.OK
}

func sums(a, b api.Ival, p int) (api.Ival, api.Errno) {
	lo, why := sum(a.Lo, b.Lo)
	if why != api.OK {
		return api.Ival{}, why
	}
	hi, why := sum(a.Hi, b.Hi)
	if why != api.OK {
		return api.Ival{}, why
	}
	return api.Ival{Lo: lo, Hi: hi}, api.OK
}

// crosswise takes each end of a with each end of b: between the outmost two lies all that is made of numbers between them.
func crosswise(of func(x, y api.Dyad, p int) api.Dyad) func(a, b api.Ival, p int) (api.Ival, api.Errno) {
	return func(a, b api.Ival, p int) (api.Ival, api.Errno) {
		first, more := of(a.Lo, b.Lo, p), []api.Dyad{of(a.Lo, b.Hi, p), of(a.Hi, b.Lo, p), of(a.Hi, b.Hi, p)}
		return api.Ival{Lo: lower().outmost(first, more...), Hi: upper().outmost(first, more...)}, api.OK
	}
}

// turned is less the enclosure; its ends share their words with it.
func turned(a api.Ival) api.Ival {
	a.Lo, a.Hi = a.Hi, a.Lo
	a.Lo.Neg, a.Hi.Neg = !a.Lo.Neg, !a.Hi.Neg
	return a
}

// end is one of the two ends: which way it goes.
type end struct {
	farther func(order int) bool
	cut     func(d api.Dyad, p int) (api.Dyad, api.Errno)
}

func lower() end {
	return end{
		farther: func(order int) bool { return order < 0 },
		cut:     func(d api.Dyad, p int) (api.Dyad, api.Errno) { return cut(d, p, false) },
	}
}

func upper() end {
	return end{
		farther: func(order int) bool { return order > 0 },
		cut:     func(d api.Dyad, p int) (api.Dyad, api.Errno) { return cut(d, p, true) },
	}
}

// outmost is the number that lies farthest the way that the end goes.
func (e end) outmost(first api.Dyad, more ...api.Dyad) api.Dyad {
	most := first
	for _, d := range more {
		if e.farther(against(d, most)) {
			most = d
		}
	}
	return most
}

// outward cuts both ends to p bits, each the way it goes.
func outward(v api.Ival, p int) (api.Ival, api.Errno) {
	lo, why := lower().cut(v.Lo, p)
	if why != api.OK {
		return api.Ival{}, why
	}
	hi, why := upper().cut(v.Hi, p)
	if why != api.OK {
		return api.Ival{}, why
	}
	return api.Ival{Lo: lo, Hi: hi}, api.OK
}
