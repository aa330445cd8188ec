package tables

import (
	"ulp/api"
	"ulp/atancore"
	"ulp/dyad"
	"ulp/expfam"
	"ulp/ival"
	"ulp/logcore"
	"ulp/nat"
	"ulp/trigpi"
)

// kind is of what a table is: the value at the step 0, which is whole; and that at any other step, which is not dyadic, enclosed to p bits.
type kind struct {
	first int64
	value func(at step, p int) (api.Ival, api.Errno)
}

// kinds stand by their numbers; of all that are none there is no value.
func kinds() [api.TableCount]kind {
	return [api.TableCount]kind{
		api.TableExp2:    {1, power},
		api.TableLog:     {0, logarithm},
		api.TableInverse: {1, inverse},
		api.TableAtan:    {0, arcTangent},
		api.TableSinpi:   {0, sine},
	}
}

// step is the i-th of 2^n.
type step struct{ n, i int }

// part is how much of all steps lies ahead of it.
func (s step) part() api.Dyad { return api.Dyad{Abs: nat.Of(uint64(s.i)), Exp: -s.n} }

// andOne is that and 1.
func (s step) andOne() api.Dyad { return api.Dyad{Abs: nat.Of(1<<s.n + uint64(s.i)), Exp: -s.n} }

func power(at step, p int) (api.Ival, api.Errno) { return expfam.Power(2, at.part(), p) }

func logarithm(at step, p int) (api.Ival, api.Errno) { return logcore.Log(at.andOne(), p) }

// inverse goes by numbers of one bit more: their neighbours lie apart by at most 2^-p of them.
func inverse(at step, p int) (api.Ival, api.Errno) {
	return ival.Div(point(dyad.Int(1)), point(at.andOne()), p+1)
}

func arcTangent(at step, p int) (api.Ival, api.Errno) { return atancore.Atan(at.part(), p) }

// sine goes by half turns: all steps together are a quarter of a turn.
func sine(at step, p int) (api.Ival, api.Errno) {
	v, _, why := trigpi.Both(step{at.n + 1, at.i}.part(), p)
	return v, why
}

func point(d api.Dyad) api.Ival { return api.Ival{Lo: d, Hi: d} }
