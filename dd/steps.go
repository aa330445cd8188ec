package dd

import (
	"ulp/api"
	"ulp/eft"
)

// pair is an api.Pair whose methods are the steps of the books; they take any pairs, right or not.
//
// Products are converted to float64 where they stand: without that Go may put them together with the sum that follows, into one rounding.
type pair api.Pair

// fast is two floats, the second no greater in amount, made a pair.
func fast(a, b float64) pair {
	hi, lo := eft.FastTwoSum(a, b)
	return pair{Hi: hi, Lo: lo}
}

func (x pair) sum(y pair) pair {
	s, t := eft.TwoSum(x.Hi, y.Hi)
	u, v := eft.TwoSum(x.Lo, y.Lo)
	a, b := eft.FastTwoSum(s, t+u)
	return fast(a, v+b)
}

func (x pair) difference(y pair) pair { return x.sum(y.less()) }

func (x pair) product(y pair) pair {
	c, e := eft.TwoProd(x.Hi, y.Hi)
	h := float64(x.Hi*y.Lo) + float64(x.Lo*y.Hi)
	return fast(c, e+h)
}

func (x pair) timesFloat(k float64) pair {
	c, e := eft.TwoProd(x.Hi, k)
	a, b := eft.FastTwoSum(c, float64(x.Lo*k))
	return fast(a, b+e)
}

func (x pair) quotient(y pair) pair {
	q := x.Hi / y.Hi
	r := y.timesFloat(q)
	c := (x.Hi - r.Hi) + (x.Lo - r.Lo)
	return fast(q, c/y.Hi)
}

func (x pair) less() pair { return pair{Hi: -x.Hi, Lo: -x.Lo} }

// amount goes by Hi alone, since the Lo of a right pair does not change the sign.
func (x pair) amount() pair {
	if x.Hi < 0 {
		return x.less()
	}
	return x
}
