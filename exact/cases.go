package exact

import (
	"ulp/api"
	"ulp/dyad"
	"ulp/nat"
)

const (
	leastTwos = -1074 // the exponent of the least power of 2 that is a binary64
	mostTwos  = 1023  // and of the greatest
)

// domain tells whether a function has a real value at a number.
type domain func(x api.Dyad) bool

// cases tell a function's value at a number of its domain, if it is an exact case.
type cases func(x api.Dyad) (api.Dyad, bool)

func everywhere(x api.Dyad) bool { return true }

func above(n int64) domain { return func(x api.Dyad) bool { return against(x, n) > 0 } }

func fromOne(x api.Dyad) bool { return against(x, 1) >= 0 }

// toOne are the numbers from -1 to 1, belowOne those between.
func toOne(x api.Dyad) bool { return against(x, -1) >= 0 && against(x, 1) <= 0 }

func belowOne(x api.Dyad) bool { return against(x, -1) > 0 && against(x, 1) < 0 }

// against is -1, 0, 1, as a number lies below a whole one, is it, lies above it.
func against(x api.Dyad, n int64) int {
	order, _ := dyad.Cmp(x, dyad.Int(n))
	return order
}

// point is a whole number, and a function's value there, in quarters.
type point struct{ x, quarters int64 }

// at are the cases of a function that has no others than those points.
func at(points ...point) cases {
	return func(x api.Dyad) (api.Dyad, bool) {
		for _, p := range points {
			if against(x, p.x) == 0 {
				return inQuarters(p.quarters), true
			}
		}
		return api.Dyad{}, false
	}
}

// inQuarters is so many times 1/4.
func inQuarters(n int64) api.Dyad {
	d, _ := dyad.Shift(dyad.Int(n), -2)
	return d
}

// powers are those of a base, 2 times an odd number, to whole numbers from least to most; below 0 only where odd is 1.
type powers struct {
	odd         uint64
	least, most int
}

// power is the one to the power of x.
func (p powers) power(x api.Dyad) (api.Dyad, bool) {
	if x.Exp < 0 || against(x, int64(p.least)) < 0 || against(x, int64(p.most)) > 0 {
		return api.Dyad{}, false
	}
	return p.to(whole(x)), true
}

// exponent is that of the power that x is.
func (p powers) exponent(x api.Dyad) (api.Dyad, bool) {
	// The base has one factor 2: so the number's last bit tells how many there are.
	n := x.Exp
	if n < p.least || n > p.most {
		return api.Dyad{}, false
	}
	if order, _ := dyad.Cmp(x, p.to(n)); order != 0 {
		return api.Dyad{}, false
	}
	return dyad.Int(int64(n)), true
}

// to is the base to the power of n.
func (p powers) to(n int) api.Dyad {
	odd, _ := nat.Pow(nat.Of(p.odd), max(0, n))
	return api.Dyad{Abs: odd, Exp: n}
}

// whole is a small whole number in its one form.
func whole(x api.Dyad) int {
	if dyad.Zero(x) {
		return 0
	}
	n := int(x.Abs[0]) << x.Exp
	if x.Neg {
		return -n
	}
	return n
}

// lessOne are the cases of a function that is another one less 1.
func lessOne(of cases) cases {
	return func(x api.Dyad) (api.Dyad, bool) {
		value, is := of(x)
		if !is {
			return api.Dyad{}, false
		}
		less, why := dyad.Sub(value, dyad.Int(1))
		return less, why == api.OK
	}
}

// ofOneMore are the cases of a function that is another one of 1 + x, which is reckoned exactly: next to 0 and far from it x has bits that 1 + x, as a binary64, would lose.
func ofOneMore(of cases) cases {
	return func(x api.Dyad) (api.Dyad, bool) {
		more, why := dyad.Add(x, dyad.Int(1))
		if why != api.OK {
			return api.Dyad{}, false
		}
		return of(more)
	}
}
