package special_test

import (
	"math"

	"ulp/api"
)

// outcome is what a row should answer.
type outcome struct {
	value float64
	kind  api.RowKind
}

var (
	none    = outcome{0, api.RowNone}
	outside = outcome{math.NaN(), api.RowDomain}
)

func told(x float64) outcome { return outcome{x, api.RowExact} }

func pole(x float64) outcome { return outcome{x, api.RowPole} }

func limit(x float64) outcome { return outcome{x, api.RowLimit} }

// result is the outcome as a function's answer.
func (o outcome) result() api.Result {
	raised := map[api.RowKind]api.Flags{api.RowDomain: api.Invalid, api.RowPole: api.DivByZero, api.RowLimit: api.Inexact}
	if math.IsNaN(o.value) {
		return api.Result{Bits: nan, Flags: raised[o.kind]}
	}
	return api.Result{Bits: word(o.value), Flags: raised[o.kind]}
}

// isInf tells whether a number is an infinity of either sign.
func isInf(x float64) bool { return math.IsInf(x, 0) }

func isWhole(x float64) bool { return x == math.Trunc(x) && !isInf(x) }

func isOdd(x float64) bool { return isWhole(x) && math.Mod(x, 2) != 0 }

func isHalf(x float64) bool { return !isInf(x) && math.Mod(math.Abs(x), 1) == 0.5 }

// oneOf is the row of a function of one argument at a number, by the table of the chapter, line by line.
func oneOf(f api.Func, x float64) outcome {
	switch f {
	case api.FuncExp, api.FuncExp2, api.FuncExp10:
		switch x {
		case 0:
			return told(1)
		case -infinity:
			return told(0)
		case infinity:
			return told(infinity)
		}
	case api.FuncExpm1, api.FuncExp2m1, api.FuncExp10m1:
		switch x {
		case 0:
			return told(x)
		case -infinity:
			return told(-1)
		case infinity:
			return told(infinity)
		}
	case api.FuncLog, api.FuncLog2, api.FuncLog10:
		switch {
		case x == 0:
			return pole(-infinity)
		case x < 0:
			return outside
		case x == 1:
			return told(0)
		case x == infinity:
			return told(infinity)
		}
	case api.FuncLog1p, api.FuncLog2p1, api.FuncLog10p1:
		switch {
		case x == 0:
			return told(x)
		case x == -1:
			return pole(-infinity)
		case x < -1:
			return outside
		case x == infinity:
			return told(infinity)
		}
	case api.FuncAcosh:
		switch {
		case x < 1:
			return outside
		case x == 1:
			return told(0)
		case x == infinity:
			return told(infinity)
		}
	case api.FuncRsqrt:
		switch {
		case x == 0:
			return pole(math.Copysign(infinity, x))
		case x < 0:
			return outside
		case x == infinity:
			return told(0)
		}
	case api.FuncSinh, api.FuncAsinh, api.FuncCbrt:
		if x == 0 || isInf(x) {
			return told(x)
		}
	default:
		return angleOf(f, x)
	}
	return none
}

// angleOf is likewise that of a function of angles, or of one of their kind.
func angleOf(f api.Func, x float64) outcome {
	amount := math.Abs(x)
	switch f {
	case api.FuncSin, api.FuncTan:
		return ends(x, told(x), outside)
	case api.FuncCos:
		return ends(x, told(1), outside)
	case api.FuncCosh:
		return ends(x, told(1), told(infinity))
	case api.FuncTanh:
		return ends(x, told(x), told(math.Copysign(1, x)))
	case api.FuncAtan:
		return ends(x, told(x), limit(math.Copysign(math.Pi/2, x)))
	case api.FuncAtanpi:
		return ends(x, told(x), told(math.Copysign(0.5, x)))
	case api.FuncAsin, api.FuncAsinpi:
		if amount > 1 {
			return outside
		}
		return ends(x, told(x), outside)
	case api.FuncAcos, api.FuncAcospi:
		switch {
		case x == 1:
			return told(0)
		case amount > 1:
			return outside
		}
	case api.FuncAtanh:
		switch {
		case x == 0:
			return told(x)
		case amount == 1:
			return pole(math.Copysign(infinity, x))
		case amount > 1:
			return outside
		}
	case api.FuncSinpi, api.FuncCospi, api.FuncTanpi:
		return halfTurnsOf(f, x)
	}
	return none
}

// ends is the one at a zero, the other at an infinity.
func ends(x float64, atZero, atInf outcome) outcome {
	switch {
	case x == 0:
		return atZero
	case isInf(x):
		return atInf
	default:
		return none
	}
}

func halfTurnsOf(f api.Func, x float64) outcome {
	switch {
	case isInf(x):
		return outside
	case f == api.FuncSinpi && isWhole(x):
		return told(math.Copysign(0, x))
	case f == api.FuncCospi && isHalf(x):
		return told(0)
	case f == api.FuncTanpi && isWhole(x) && isOdd(x) == math.Signbit(x):
		return told(0)
	case f == api.FuncTanpi && isWhole(x):
		return told(minusZero)
	case f == api.FuncTanpi && isHalf(x) && isOdd(math.Floor(x)):
		return pole(-infinity)
	case f == api.FuncTanpi && isHalf(x):
		return pole(infinity)
	default:
		return none
	}
}

// quarters are the parts of pi that rows of atan2 tell, by how many quarters they are, as the chapter writes them.
var quarters = [5]uint64{1: 0x3fe921fb54442d18, 2: 0x3ff921fb54442d18, 3: 0x4002d97c7f3321d2, 4: 0x400921fb54442d18}

// pointOf is the row of atan2 or atan2pi at the point x, y.
func pointOf(f api.Func, y, x float64) outcome {
	part := func(n int) outcome {
		if n == 0 {
			return told(math.Copysign(0, y))
		}
		if f == api.FuncAtan2pi {
			return told(math.Copysign(float64(n)/4, y))
		}
		return limit(math.Copysign(math.Float64frombits(quarters[n]), y))
	}
	switch {
	case y == 0 && !math.Signbit(x):
		return part(0)
	case y == 0:
		return part(4)
	case x == 0:
		return part(2)
	case isInf(y) && x == infinity:
		return part(1)
	case isInf(y) && x == -infinity:
		return part(3)
	case isInf(y):
		return part(2)
	case x == infinity:
		return part(0)
	case x == -infinity:
		return part(4)
	default:
		return none
	}
}

// powerOf is the row of pow at numbers.
func powerOf(x, y float64) outcome {
	amount := math.Abs(x)
	switch {
	case x == 1 || y == 0:
		return told(1)
	case x == 0 && y == -infinity:
		return told(infinity)
	case x == 0 && y < 0 && isOdd(y):
		return pole(math.Copysign(infinity, x))
	case x == 0 && y < 0:
		return pole(infinity)
	case x == 0 && isOdd(y):
		return told(x)
	case x == 0:
		return told(0)
	case isInf(y) && x == -1:
		return told(1)
	case y == infinity && amount > 1 || y == -infinity && amount < 1:
		return told(infinity)
	case isInf(y):
		return told(0)
	case x == infinity && y < 0:
		return told(0)
	case x == infinity:
		return told(infinity)
	case x == -infinity && y < 0 && isOdd(y):
		return told(minusZero)
	case x == -infinity && y < 0:
		return told(0)
	case x == -infinity && isOdd(y):
		return told(-infinity)
	case x == -infinity:
		return told(infinity)
	case x < 0 && !isWhole(y):
		return outside
	default:
		return none
	}
}

// distanceOf is the row of hypot at numbers.
func distanceOf(x, y float64) outcome {
	switch {
	case isInf(x) || isInf(y):
		return told(infinity)
	case x == 0:
		return told(math.Abs(y))
	case y == 0:
		return told(math.Abs(x))
	default:
		return none
	}
}

// wanted is the row of a function at numbers; at what is none see TestNoNumbers.
func wanted(f api.Func, x, y float64) outcome {
	switch f {
	case api.FuncAtan2, api.FuncAtan2pi:
		return pointOf(f, x, y)
	case api.FuncPow:
		return powerOf(x, y)
	case api.FuncHypot:
		return distanceOf(x, y)
	default:
		return oneOf(f, x)
	}
}
