package fixed

import (
	"ulp/api"
	"ulp/ival"
	"ulp/nat"
)

// Span is all numbers from Lo to Hi, times 2^Exp. Unlike an interval's its ends have one exponent, and none is below 0: so whatever rises is reckoned end by end.
type Span struct {
	Lo, Hi api.Nat
	Exp    int
}

// Times is the product.
func (s Span) Times(other Span) Span {
	return Span{Lo: Times(s.Lo, other.Lo), Hi: Times(s.Hi, other.Hi), Exp: s.Exp + other.Exp}
}

// Cut has ends of w bits, or fewer; an end that is rounded up to the next power of 2 has one more.
func (s Span) Cut(w int) Span {
	size, _ := nat.Len(s.Hi)
	if size <= w {
		return s
	}
	return Span{Lo: Shift(s.Lo, w-size), Hi: ShiftUp(s.Hi, w-size), Exp: s.Exp + size - w}
}

// Ival is the span as an interval, in its one form.
func (s Span) Ival() (api.Ival, api.Errno) {
	return ival.Canon(api.Ival{Lo: api.Dyad{Abs: s.Lo, Exp: s.Exp}, Hi: api.Dyad{Abs: s.Hi, Exp: s.Exp}})
}
