package special

import "ulp/api"

const (
	fracBits         = 52
	minusZero uint64 = 1 << 63
	infinity  uint64 = 0x7ff0000000000000
	minusInf         = infinity | minusZero
	nan       uint64 = 0x7ff8000000000000
	one       uint64 = 0x3ff0000000000000
	minusOne         = one | minusZero
)

// measure is what parts of half a turn are told as.
type measure struct{ quarter, half, threeQuarters, whole uint64 }

var (
	radians   = measure{0x3fe921fb54442d18, 0x3ff921fb54442d18, 0x4002d97c7f3321d2, 0x400921fb54442d18}
	halfTurns = measure{0x3fd0000000000000, 0x3fe0000000000000, 0x3fe8000000000000, one}
)

// table has the rows of the functions by their numbers.
func table() [api.FuncCount]rows {
	return [api.FuncCount]rows{
		api.FuncExp:     ofOne{exponential},
		api.FuncExp2:    ofOne{exponential},
		api.FuncExp10:   ofOne{exponential},
		api.FuncExpm1:   ofOne{exponentialLessOne},
		api.FuncExp2m1:  ofOne{exponentialLessOne},
		api.FuncExp10m1: ofOne{exponentialLessOne},
		api.FuncLog:     ofOne{logarithm},
		api.FuncLog2:    ofOne{logarithm},
		api.FuncLog10:   ofOne{logarithm},
		api.FuncLog1p:   ofOne{logarithmOfOneMore},
		api.FuncLog2p1:  ofOne{logarithmOfOneMore},
		api.FuncLog10p1: ofOne{logarithmOfOneMore},
		api.FuncSin:     ofOne{sine},
		api.FuncCos:     ofOne{cosine},
		api.FuncTan:     ofOne{sine},
		api.FuncSinpi:   ofOne{sineOfHalfTurns},
		api.FuncCospi:   ofOne{cosineOfHalfTurns},
		api.FuncTanpi:   ofOne{tangentOfHalfTurns},
		api.FuncAsin:    ofOne{arcSine},
		api.FuncAcos:    ofOne{arcCosine},
		api.FuncAtan:    ofOne{arcTangent},
		api.FuncAsinpi:  ofOne{arcSine},
		api.FuncAcospi:  ofOne{arcCosine},
		api.FuncAtanpi:  ofOne{arcTangentInHalfTurns},
		api.FuncSinh:    ofOne{themselves},
		api.FuncCosh:    ofOne{hyperbolicCosine},
		api.FuncTanh:    ofOne{hyperbolicTangent},
		api.FuncAsinh:   ofOne{themselves},
		api.FuncAcosh:   ofOne{ofHyperbolicCosine},
		api.FuncAtanh:   ofOne{ofHyperbolicTangent},
		api.FuncCbrt:    ofOne{themselves},
		api.FuncRsqrt:   ofOne{inverseRoot},
		api.FuncAtan2:   ofTwo{nothing, angleInRadians},
		api.FuncAtan2pi: ofTwo{nothing, angleInHalfTurns},
		api.FuncPow:     ofTwo{powerOfAnything, power},
		api.FuncHypot:   ofTwo{distanceFar, distance},
	}
}

func exponential() []line {
	return []line{{zero, told(one)}, {is(minusInf), told(0)}, {is(infinity), itself}}
}

func exponentialLessOne() []line {
	return []line{{zero, itself}, {is(minusInf), told(minusOne)}, {is(infinity), itself}}
}

func logarithm() []line {
	return []line{{zero, pole(minusInf)}, {below(0), outside}, {is(one), told(0)}, {is(infinity), itself}}
}

func logarithmOfOneMore() []line {
	return []line{{zero, itself}, {is(minusOne), pole(minusInf)}, {below(minusOne), outside}, {is(infinity), itself}}
}

func sine() []line { return []line{{zero, itself}, {infinite, outside}} }

func cosine() []line { return []line{{zero, told(one)}, {infinite, outside}} }

func sineOfHalfTurns() []line { return []line{{infinite, outside}, {whole, signed(told(0))}} }

func cosineOfHalfTurns() []line { return []line{{infinite, outside}, {andHalf, told(0)}} }

// tangentOfHalfTurns goes by amounts: below 0 the greatest whole number below x is one farther than the part ahead of the point, and so both signs are turned.
func tangentOfHalfTurns() []line {
	return []line{
		{infinite, outside},
		{whole, signed(turnedIf(oddPart, told(0)))},
		{andHalf, signed(turnedIf(oddPart, pole(infinity)))},
	}
}

func arcSine() []line { return []line{{zero, itself}, {beyondOne, outside}} }

func arcCosine() []line { return []line{{is(one), told(0)}, {beyondOne, outside}} }

func arcTangent() []line { return []line{{zero, itself}, {infinite, signed(limit(radians.half))}} }

func arcTangentInHalfTurns() []line {
	return []line{{zero, itself}, {infinite, signed(told(halfTurns.half))}}
}

func themselves() []line { return []line{{zero, itself}, {infinite, itself}} }

func hyperbolicCosine() []line { return []line{{zero, told(one)}, {infinite, told(infinity)}} }

func hyperbolicTangent() []line { return []line{{zero, itself}, {infinite, signed(told(one))}} }

func ofHyperbolicCosine() []line {
	return []line{{below(one), outside}, {is(one), told(0)}, {is(infinity), itself}}
}

func ofHyperbolicTangent() []line {
	return []line{{zero, itself}, {is(one), pole(infinity)}, {is(minusOne), pole(minusInf)}, {beyondOne, outside}}
}

func inverseRoot() []line {
	return []line{{zero, signed(pole(infinity))}, {below(0), outside}, {is(infinity), told(0)}}
}

func nothing() []line { return nil }

func angleInRadians() []line { return angle(radians, limit) }

func angleInHalfTurns() []line { return angle(halfTurns, told) }

// angle has a point's y as its x, as it is the one that is handed in first.
func angle(in measure, tell func(word uint64) answer) []line {
	return []line{
		{both(zero, ofY(plus)), itself},
		{zero, signed(tell(in.whole))},
		{ofY(zero), signed(tell(in.half))},
		{both(infinite, ofY(is(infinity))), signed(tell(in.quarter))},
		{both(infinite, ofY(is(minusInf))), signed(tell(in.threeQuarters))},
		{infinite, signed(tell(in.half))},
		{ofY(is(infinity)), signed(told(0))},
		{ofY(is(minusInf)), signed(tell(in.whole))},
	}
}

// powerOfAnything: these are 1 even with what is no number.
func powerOfAnything() []line { return []line{{is(one), told(one)}, {ofY(zero), told(one)}} }

func power() []line {
	return []line{
		{both(zero, ofY(is(minusInf))), told(infinity)},
		{both(zero, ofY(below(0))), signedIfOdd(pole(infinity))},
		{zero, signedIfOdd(told(0))},
		{both(ofY(infinite), is(minusOne)), told(one)},
		{both(ofY(infinite), growing), told(infinity)},
		{ofY(infinite), told(0)},
		{both(infinite, ofY(below(0))), signedIfOdd(told(0))},
		{infinite, signedIfOdd(told(infinity))},
		{both(below(0), ofY(broken)), outside},
	}
}

// growing: the amount of x, which is not 1, is multiplied outward as y goes to its infinity.
func growing(a arguments) bool { return beyondOne(a) == ofY(plus)(a) }

// distanceFar: one side that has no end is enough, even with what is no number.
func distanceFar() []line { return []line{{either(infinite), told(infinity)}} }

func distance() []line { return []line{{either(zero), amounts}} }
