package ziv

import (
	"ulp/alg"
	"ulp/api"
	"ulp/bits"
	"ulp/exact"
	"ulp/expfam"
	"ulp/hyper"
	"ulp/invtrig"
	"ulp/logfam"
	"ulp/power"
	"ulp/trig"
	"ulp/trigpi"
)

// family has some of the functions.
type family interface{ has(f api.Func) bool }

// ofOne is a family of functions of one argument.
type ofOne interface {
	family
	at(f api.Func, x uint64) value
}

// ofTwo is a family of functions of two.
type ofTwo interface {
	family
	atBoth(f api.Func, x, y uint64) value
}

// families have all functions, each of them in one.
func families() []family {
	return []family{
		single{expfam.Is, expfam.Enclose},
		single{logfam.Is, logfam.Enclose},
		single{trig.Is, trig.Enclose},
		single{trigpi.Is, trigpi.Enclose},
		single{invtrig.Is, invtrig.Enclose},
		single{hyper.Is, hyper.Enclose},
		roots{},
		angles{},
		powers{},
		distances{},
	}
}

// familyOf is the one that has a function; nil of what is none.
func familyOf(f api.Func) family {
	for _, of := range families() {
		if of.has(f) {
			return of
		}
	}
	return nil
}

func isOfTwo(of family) bool {
	_, two := of.(ofTwo)
	return two
}

// valueOf is that of a function at its arguments, of which a function of one is handed the first alone; nil of what is no function.
func valueOf(f api.Func, x, y uint64) value {
	of := familyOf(f)
	if two, is := of.(ofTwo); is {
		return two.atBoth(f, x, y)
	}
	if one, is := of.(ofOne); is {
		return one.at(f, x)
	}
	return nil
}

// enclosedOf is that value, if it is one that is enclosed.
func enclosedOf(f api.Func, x, y uint64) (enclosed, bool) {
	v, is := valueOf(f, x, y).(enclosed)
	return v, is
}

// single are the functions of one argument that a package encloses.
type single struct {
	is      func(f api.Func) bool
	enclose func(f api.Func, x uint64, p int) (api.Ival, api.Errno)
}

func (s single) has(f api.Func) bool { return s.is(f) }

func (s single) at(f api.Func, x uint64) value {
	return enclosed{
		exact:   func() (api.Dyad, bool, api.Errno) { return exact.Exact(f, x) },
		enclose: func(p int) (api.Ival, api.Errno) { return s.enclose(f, x, p) },
		beyond:  func() api.Dyad { return farFrom0(f, bits.Less(x, 0)) },
	}
}

// farFrom0 stands for the values that exponentials, hyperbolic sine and cosine have far above 0, or below it.
func farFrom0(f api.Func, below bool) api.Dyad {
	switch {
	case f == api.FuncSinh:
		return tooGreat(below)
	case f == api.FuncCosh || !below:
		return tooGreat(false)
	default:
		return tooSmall(false)
	}
}

// roots are those of one argument.
type roots struct{}

func (roots) has(f api.Func) bool { return alg.Is(f) }

func (roots) at(f api.Func, x uint64) value {
	if f == api.FuncRsqrt {
		return decidedAs(alg.Rsqrt(x))
	}
	return decidedAs(alg.Cbrt(x))
}

// distances are those of points.
type distances struct{}

func (distances) has(f api.Func) bool { return alg.Is2(f) }

func (distances) atBoth(f api.Func, x, y uint64) value { return decidedAs(alg.Hypot(x, y)) }

// angles are those at which points are seen.
type angles struct{}

func (angles) has(f api.Func) bool { return invtrig.Is2(f) }

// atBoth is handed what the point goes up first, then what it goes along.
func (angles) atBoth(f api.Func, up, along uint64) value {
	v := enclosed{
		exact:   func() (api.Dyad, bool, api.Errno) { return exact.Exact2(f, up, along) },
		enclose: func(p int) (api.Ival, api.Errno) { return invtrig.Enclose2(f, up, along, p) },
		beyond:  func() api.Dyad { return tooSmall(bits.Less(up, 0)) },
	}
	if f == api.FuncAtan2 {
		v.beside = func() (api.Ival, api.Errno) { return besideSlope(up, along) }
	}
	return v
}

// powers are those of a number.
type powers struct{}

func (powers) has(f api.Func) bool { return f == api.FuncPow }

func (powers) atBoth(f api.Func, x, y uint64) value {
	return enclosed{
		exact:   func() (api.Dyad, bool, api.Errno) { return power.Exact(x, y) },
		enclose: func(p int) (api.Ival, api.Errno) { return power.Enclose2(f, x, y, p) },
		beyond:  func() api.Dyad { return farPower(x, y) },
	}
}

// farPower stands for a power that is far from 1.
func farPower(x, y uint64) api.Dyad {
	if over, _ := power.Far(x, y); over {
		return tooGreat(power.Odd(x, y))
	}
	return tooSmall(power.Odd(x, y))
}
