package dyad

import (
	"ulp/api"
	"ulp/bits"
	"ulp/nat"
)

const (
	fracBits    = 52
	hiddenBit   = 1 << fracBits
	leastExp    = -1074 // of a binary64's last bit
	leastTop    = -1022 // of a normal one's first bit
	greatestTop = 1023  // of a finite one's first bit
	topBias     = 1023  // what the exponent's field is ahead of the first bit's exponent
)

// From is what a binary64 is.
func From(x uint64) (api.Dyad, api.Errno) {
	last, why := bits.Last(x)
	if why != api.OK {
		return api.Dyad{}, why
	}
	f := bits.Split(x)
	amount := f.Frac
	if f.Exp != 0 {
		amount |= hiddenBit
	}
	return canonical(api.Dyad{Neg: f.Neg, Abs: nat.Of(amount), Exp: last}).told(), api.OK
}

// To is the binary64 that a number is exactly, if there is one.
func To(d api.Dyad) (uint64, bool) {
	if !right(d) {
		return 0, false
	}
	x := canonical(d)
	if x.zero() {
		return 0, true
	}
	if x.size() > fracBits+1 || x.top() > greatestTop || x.exp < leastExp {
		return 0, false
	}
	word, why := bits.Join(x.fields())
	return word, why == api.OK
}

// fields are those of the binary64 that a number other than 0 is.
func (x number) fields() api.Fields {
	if x.top() < leastTop {
		return api.Fields{Neg: x.neg, Frac: x.abs[0] << (x.exp - leastExp)}
	}
	frac := x.abs[0] << (fracBits + 1 - x.size()) &^ hiddenBit
	return api.Fields{Neg: x.neg, Exp: x.top() + topBias, Frac: frac}
}
