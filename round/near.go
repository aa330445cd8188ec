package round

import (
	"ulp/api"
	"ulp/bits"
	"ulp/dyad"
	"ulp/nat"
)

const (
	greatest = 0x7fefffffffffffff
	infinity = 0x7ff0000000000000
	overExp  = 1024  // from 2^1024 on no binary64 is finite
	fracLen  = 52    // bits of a binary64 behind its first
	leastExp = -1074 // the exponent of no binary64's last bit is lower
)

// share is what a number is more than the lower one of its two neighbours, of what these are apart: it is told as far as rounding asks.
type share uint64

const (
	none share = iota
	belowHalf
	half
	aboveHalf
)

// sticky is one bit for all bits that were cut off: whether one of them was 1.
type sticky bool

func (s *sticky) cut(a api.Nat, n int) api.Nat {
	rest, lost, _ := nat.Shr(a, n)
	*s = *s || sticky(lost)
	return rest
}

// nearest is the binary64 that is nearest to a right number, and whether it is that number.
func nearest(d api.Dyad) (y uint64, same bool) {
	down, more := amountParts(d)
	y = chooser(down, bits.Up(down))(more)
	if d.Neg && !dyad.Zero(d) {
		y = bits.Neg(y)
	}
	return y, more == none
}

// chooser tells, of two neighbours, which one is nearest to what lies between them.
func chooser(down, up uint64) func(share) uint64 {
	even := down
	if down&1 != 0 {
		even = up
	}
	return func(more share) uint64 {
		switch {
		case more < half:
			return down
		case more > half:
			return up
		default:
			return even
		}
	}
}

// amountParts is the greatest binary64 that is not above a number's amount, and what the amount is more.
func amountParts(d api.Dyad) (down uint64, more share) {
	top, why := dyad.Top(d)
	switch {
	case why != api.OK: // 0 has no first bit
		return 0, none
	case top >= overExp:
		return greatest, aboveHalf
	}
	last := max(top-fracLen, leastExp)
	count, lost := quarters(d, last)
	more = share(count & 3)
	if lost {
		more |= 1
	}
	down, _ = dyad.To(api.Dyad{Abs: nat.Of(count >> 2), Exp: last})
	return down, more
}

// quarters counts a number's amount in quarters of 2^last, and tells whether something is left. They fit into a word: the number has no bit above the 53rd from last.
func quarters(d api.Dyad, last int) (count uint64, lost bool) {
	var s sticky
	bring := s.cut
	n := last - 2 - d.Exp
	if n < 0 {
		n, bring = -n, wider
	}
	if words := bring(d.Abs, n); len(words) > 0 {
		count = words[0]
	}
	return count, bool(s)
}

// wider cuts nothing off: it has bits 0 follow.
func wider(a api.Nat, n int) api.Nat {
	a, _ = nat.Shl(a, n)
	return a
}

// tiny tells whether a number's amount is below 2^-1022 - 2^-1076: so 0 is.
func tiny(d api.Dyad) bool {
	d.Neg = false
	order, _ := dyad.Cmp(d, api.Dyad{Abs: nat.Of(1<<54 - 1), Exp: leastExp - 2})
	return order < 0
}

// inexact has the exceptions of a number that was rounded to another one.
func inexact(y uint64, tiny bool) api.Result {
	r := api.Result{Bits: y, Flags: api.Inexact}
	if bits.Abs(y) == infinity {
		r.Flags |= api.Overflow
	}
	if tiny {
		r.Flags |= api.Underflow
	}
	return r
}
