// Package bits takes binary64 numbers apart: see ../../shared/DOC.md and doc/01-bits.md.
package bits

import (
	"cmp"
	mathbits "math/bits"

	"ulp/api"
)

const (
	signBit   uint64 = 1 << 63
	quietBit  uint64 = 1 << 51
	hiddenBit uint64 = 1 << 52
	infinity  uint64 = 0x7ff << 52
	fracMask         = hiddenBit - 1
	maxField         = 0x7ff // the exponent's field of infinities and of what is no number
	expBias          = 1075  // what the exponent's field is ahead of the last bit's exponent
)

// Class is what a number is.
func Class(x uint64) api.ClassKind {
	f := Split(x)
	switch {
	case f.Exp == 0 && f.Frac == 0:
		return api.ClassZero
	case f.Exp == 0:
		return api.ClassSubnormal
	case f.Exp < maxField:
		return api.ClassNormal
	case f.Frac == 0:
		return api.ClassInf
	case f.Frac&quietBit != 0:
		return api.ClassQuiet
	default:
		return api.ClassSignal
	}
}

// Split takes a number apart.
func Split(x uint64) api.Fields {
	return api.Fields{
		Neg:  x&signBit != 0,
		Exp:  int(x >> 52 & maxField),
		Frac: x & fracMask,
	}
}

// Join puts together what Split takes apart.
func Join(f api.Fields) (uint64, api.Errno) {
	if f.Exp < 0 || f.Exp > maxField || f.Frac > fracMask {
		return 0, api.ErrRange
	}
	x := uint64(f.Exp)<<52 | f.Frac
	if f.Neg {
		x |= signBit
	}
	return x, api.OK
}

// Up is the least number above x.
func Up(x uint64) uint64 {
	switch {
	case !isNumber(x) || x == infinity:
		return x
	case Abs(x) == 0: // both zeros are one number: the step from -0 does not end at 0
		return 1
	case x&signBit != 0:
		return x - 1
	default:
		return x + 1
	}
}

// Down is the greatest number below x.
func Down(x uint64) uint64 { return Neg(Up(Neg(x))) }

// Neg turns the sign, also of what is no number.
func Neg(x uint64) uint64 { return x ^ signBit }

// Abs clears the sign, also of what is no number.
func Abs(x uint64) uint64 { return x &^ signBit }

// Steps is how many times Up leads from x to y.
func Steps(x, y uint64) (uint64, api.Errno) {
	if !isNumber(x) || !isNumber(y) {
		return 0, api.ErrWhole
	}
	if Less(y, x) {
		return 0, api.ErrRange
	}
	// From one infinity to the other it is more than an int64 holds: the difference is taken of words, which wrap round.
	return uint64(rung(y)) - uint64(rung(x)), api.OK
}

// Less tells whether x and y are numbers, and x lies below y.
func Less(x, y uint64) bool {
	return isNumber(x) && isNumber(y) && rung(x) < rung(y)
}

// Order is the total order of all words: -1, 0, 1.
func Order(x, y uint64) int { return cmp.Compare(place(x), place(y)) }

// Last is the exponent of a finite number's last bit.
func Last(x uint64) (int, api.Errno) {
	if Abs(x) >= infinity {
		return 0, api.ErrWhole
	}
	_, exp := units(x)
	return exp, api.OK
}

// Whole tells whether a number is finite and whole.
func Whole(x uint64) bool {
	exp, zero := lowest(x)
	return Abs(x) < infinity && (zero || exp >= 0)
}

// Odd tells whether a number is finite, whole and odd.
func Odd(x uint64) bool {
	exp, zero := lowest(x)
	return Abs(x) < infinity && !zero && exp == 0
}

func isNumber(x uint64) bool { return Abs(x) <= infinity }

// rung is where a number stands on the ladder of all numbers, both zeros at 0, neighbours 1 apart.
func rung(x uint64) int64 {
	if x&signBit != 0 {
		return -int64(Abs(x))
	}
	return int64(x)
}

// place is where a word stands in the total order: the sign is shifted over the word, so that negative ones are turned round, and the sign's own bit always.
func place(x uint64) uint64 {
	return x ^ (uint64(int64(x)>>63) | signBit)
}

// units is the amount of a finite number as a whole number, times 2 to the power of exp.
func units(x uint64) (count uint64, exp int) {
	f := Split(x)
	if f.Exp == 0 { // subnormals have the exponent of the least normal numbers, without the hidden bit
		return f.Frac, 1 - expBias
	}
	return f.Frac | hiddenBit, f.Exp - expBias
}

// lowest is the exponent of the lowest bit that is set in a finite number; a zero has none.
func lowest(x uint64) (exp int, zero bool) {
	count, last := units(x)
	if count == 0 {
		return 0, true
	}
	return last + mathbits.TrailingZeros64(count), false
}
