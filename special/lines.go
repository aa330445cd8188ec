package special

import (
	"ulp/api"
	"ulp/bits"
)

// row is what is answered, and of which kind that is; the zero row is none.
type row struct {
	result api.Result
	kind   api.RowKind
}

// arguments are those of a function of two; of a function of one both are the same.
type arguments struct{ x, y uint64 }

// line is one of a function's rows: where it holds, and what it answers there.
type line struct {
	holds  test
	answer answer
}

// test tells whether a line holds of arguments; if it is not said otherwise, it looks at x alone.
type test func(a arguments) bool

func zero(a arguments) bool       { return bits.Class(a.x) == api.ClassZero }
func infinite(a arguments) bool   { return bits.Class(a.x) == api.ClassInf }
func quiet(a arguments) bool      { return bits.Class(a.x) == api.ClassQuiet }
func signalling(a arguments) bool { return bits.Class(a.x) == api.ClassSignal }

func minus(a arguments) bool  { return bits.Split(a.x).Neg }
func plus(a arguments) bool   { return !minus(a) }
func whole(a arguments) bool  { return bits.Whole(a.x) }
func broken(a arguments) bool { return !whole(a) }
func odd(a arguments) bool    { return bits.Odd(a.x) }

// beyondOne: above 1 or below -1, infinities too.
func beyondOne(a arguments) bool { return bits.Less(one, bits.Abs(a.x)) }

func is(word uint64) test { return func(a arguments) bool { return a.x == word } }

func below(word uint64) test { return func(a arguments) bool { return bits.Less(a.x, word) } }

// andHalf: a whole number and a half: just then twice as much is odd. Raising the exponent's field doubles all numbers but subnormal ones and zeros, which stay far below 1, and the greatest, which become no finite ones: none of these is odd.
func andHalf(a arguments) bool {
	f := bits.Split(a.x)
	f.Exp++
	twice, why := bits.Join(f)
	return why == api.OK && bits.Odd(twice)
}

// oddPart: without what stands behind the point the number is odd.
func oddPart(a arguments) bool {
	last, why := bits.Last(a.x)
	switch {
	case why != api.OK || last < -fracBits: // amounts below 1 have no such part
		return false
	case last < 0:
		return bits.Odd(a.x >> -last << -last)
	default:
		return bits.Odd(a.x)
	}
}

// ofY looks at y as another test does at x.
func ofY(holds test) test { return func(a arguments) bool { return holds(arguments{a.y, a.x}) } }

func either(holds test) test {
	return func(a arguments) bool { return holds(a) || ofY(holds)(a) }
}

func both(first, second test) test {
	return func(a arguments) bool { return first(a) && second(a) }
}

// answer is what a line answers of arguments.
type answer func(a arguments) row

func always(word uint64, raised api.Flags, kind api.RowKind) answer {
	return func(arguments) row { return row{api.Result{Bits: word, Flags: raised}, kind} }
}

func told(word uint64) answer  { return always(word, 0, api.RowExact) }
func limit(word uint64) answer { return always(word, api.Inexact, api.RowLimit) }
func pole(word uint64) answer  { return always(word, api.DivByZero, api.RowPole) }

func invalid(a arguments) row  { return always(nan, api.Invalid, api.RowNaN)(a) }
func noNumber(a arguments) row { return always(nan, 0, api.RowNaN)(a) }
func outside(a arguments) row  { return always(nan, api.Invalid, api.RowDomain)(a) }
func itself(a arguments) row   { return told(a.x)(a) }

// amounts are those of both together, where one of them is 0.
func amounts(a arguments) row { return told(bits.Abs(a.x) | bits.Abs(a.y))(a) }

// turnedIf gives what is answered the other sign where a test holds.
func turnedIf(holds test, of answer) answer {
	return func(a arguments) row {
		r := of(a)
		if holds(a) {
			r.result.Bits = bits.Neg(r.result.Bits)
		}
		return r
	}
}

// signed gives an amount that is answered the sign of x.
func signed(of answer) answer { return turnedIf(minus, of) }

// signedIfOdd gives it that sign where y is odd.
func signedIfOdd(of answer) answer { return turnedIf(both(minus, ofY(odd)), of) }
