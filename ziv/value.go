package ziv

import (
	"ulp/api"
	"ulp/bits"
	"ulp/round"
)

// value is that of a function at its arguments.
type value interface {
	isReal() bool
	rounded(begin int) (api.Result, api.Errno) // begun with so many bits; ErrWhole, if it is not real
}

// decided is a value that is rounded without an enclosure.
type decided struct {
	result api.Result
	why    api.Errno
}

// decidedAs tells a value of 0 as +0: the sign that the zero has of an argument is not the real value's.
func decidedAs(r api.Result, why api.Errno) value {
	if bits.Class(r.Bits) == api.ClassZero {
		r.Bits = 0
	}
	return decided{r, why}
}

func (v decided) isReal() bool { return v.why == api.OK }

func (v decided) rounded(int) (api.Result, api.Errno) { return v.result, v.why }

// enclosed is a value of which there are enclosures.
type enclosed struct {
	exact   func() (api.Dyad, bool, api.Errno) // the value of an exact case; ErrWhole, if it is not real
	enclose func(p int) (api.Ival, api.Errno)  // to so many bits; ErrMany, if it is too great or too small
	beyond  func() api.Dyad                    // a number that is rounded as the value is that is too great or too small
	beside  func() (api.Ival, api.Errno)       // what else is known of it, where MaxBits bits may not decide
}

func (v enclosed) isReal() bool {
	_, _, why := v.exact()
	return why == api.OK
}

func (v enclosed) rounded(begin int) (api.Result, api.Errno) {
	d, is, why := v.exact()
	switch {
	case why != api.OK:
		return api.Result{}, why
	case is:
		return round.Near(d)
	}
	for p := begin; p <= api.MaxBits; p *= 2 {
		narrow, why := v.enclose(p)
		switch {
		case why == api.ErrMany:
			return round.Near(v.beyond())
		case why != api.OK:
			return api.Result{}, why
		}
		if r, known, _ := round.Decide(narrow); known {
			return r, api.OK
		}
	}
	return v.roundedBeside()
}

// roundedBeside is the value rounded by what is known beside the enclosures; ErrHard, if that does not decide, either.
func (v enclosed) roundedBeside() (api.Result, api.Errno) {
	if v.beside == nil {
		return api.Result{}, api.ErrHard
	}
	narrow, why := v.beside()
	if why != api.OK {
		return api.Result{}, api.ErrHard
	}
	r, known, _ := round.Decide(narrow)
	if !known {
		return api.Result{}, api.ErrHard
	}
	return r, api.OK
}

// tooGreat stands for all values that are rounded to an infinity, tooSmall for those that are rounded to a zero.
func tooGreat(neg bool) api.Dyad { return api.Dyad{Neg: neg, Abs: api.Nat{1}, Exp: api.MaxExp} }

func tooSmall(neg bool) api.Dyad { return api.Dyad{Neg: neg, Abs: api.Nat{1}, Exp: -api.MaxExp} }
