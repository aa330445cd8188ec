package nat

import "math/bits"

// over is a divided by b, which is not 0, rounded down, and what is left: long division, as one does it by hand, with words for digits.
func (a words) over(b words) (quotient, rest words) {
	switch {
	case a.against(b) < 0:
		return nil, a.copied()
	case len(b) == 1:
		quotient = a.copied()
		return quotient, word(quotient.divideBy(b[0]))
	}
	// With the divisor's top bit set, a word guessed of the quotient is too great by little.
	shift := bits.LeadingZeros64(b[len(b)-1])
	divisor := trim(b.left(shift))
	left := a.left(shift)
	n := len(divisor)
	quotient = make(words, len(left)-n)
	for i := len(quotient) - 1; i >= 0; i-- {
		quotient[i] = left[i : i+n+1].takeOften(divisor)
	}
	return quotient, trim(left[:n]).right(shift)
}

// divideBy divides by a word in place, and answers what is left.
func (a words) divideBy(w uint64) uint64 {
	var rest uint64
	for i := len(a) - 1; i >= 0; i-- {
		a[i], rest = bits.Div64(rest, a[i], w)
	}
	return rest
}

// takeOften takes off the divisor as often as it goes, in place, and answers how often. It goes less than 2^64 times; a has one word more than it.
func (a words) takeOften(divisor words) uint64 {
	n := len(divisor)
	often := guess(a, divisor)
	borrow := a[:n].takeTimes(divisor, often)
	if borrow > a[n] { // the guess was one too great
		often--
		a[n] += a[:n].addTimes(divisor, 1)
	}
	a[n] -= borrow
	return often
}

// guess is how often the divisor goes into a, or one more: what the two top words of the divisor tell.
func guess(a, divisor words) uint64 {
	n := len(divisor)
	top, next := divisor[n-1], divisor[n-2]
	often, rest, beyond := quotientOfTop(a[n], a[n-1], top)
	// A rest beyond a word is above all that the next word can take off.
	for beyond == 0 && product(often, next).above(pair{a[n-2], rest}) {
		often--
		rest, beyond = bits.Add64(rest, top, 0)
	}
	return often
}

// quotientOfTop is how often top goes into two words, of which the high one is not above it, but no more than a word tells; and what is left, in a word and beyond.
func quotientOfTop(high, low, top uint64) (often, rest, beyond uint64) {
	if high == top {
		rest, beyond = bits.Add64(low, top, 0)
		return allOnes, rest, beyond
	}
	often, rest = bits.Div64(high, low, top)
	return often, rest, 0
}

func (p pair) above(q pair) bool {
	return p[1] > q[1] || p[1] == q[1] && p[0] > q[0]
}
