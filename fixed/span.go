package fixed

import (
	"ulp/api"
	"ulp/ival"
)

// Span is all numbers from Lo to Hi.
type Span struct{ Lo, Hi Number }

// Between lies between what one way makes of a number, all rounded down, and all rounded up: each end by itself, so that neither hangs on how many bits the other has.
func Between(way func(up bool) Number) Span { return Span{Lo: way(false), Hi: way(true)} }

// Units lies between two numbers of units of 2^-w.
func Units(lo, hi api.Nat, w int) Span {
	return Span{Lo: Number{Abs: lo, Exp: -w}, Hi: Number{Abs: hi, Exp: -w}}
}

// End is Hi, or Lo.
func (s Span) End(up bool) Number {
	if up {
		return s.Hi
	}
	return s.Lo
}

// Ival is the span as an interval, in its one form; ErrMany, if an end is out of bounds.
func (s Span) Ival() (api.Ival, api.Errno) {
	v, why := ival.Canon(api.Ival{Lo: s.Lo.dyad(), Hi: s.Hi.dyad()})
	if why != api.OK {
		return api.Ival{}, api.ErrMany
	}
	return v, api.OK
}

func (x Number) dyad() api.Dyad { return api.Dyad{Abs: x.Abs, Exp: x.Exp} }
