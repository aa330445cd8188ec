package nat

import (
	"cmp"
	"math/bits"
)

const (
	wordBits = 64
	allOnes  = 1<<wordBits - 1
)

// words is a natural by its words, the lowest first. The methods take lists without a word 0 at the end; what they make may have some.
type words []uint64

// pair is the product of two words: its low word and its high one.
type pair [2]uint64

func product(x, y uint64) pair {
	high, low := bits.Mul64(x, y)
	return pair{low, high}
}

// plus adds a word. A product of two words has room for two of them.
func (p pair) plus(w uint64) pair {
	low, carry := bits.Add64(p[0], w, 0)
	return pair{low, p[1] + carry}
}

// trim cuts off the words 0 at the end, with their room, so that nobody grows into them. The number 0 is nil.
func trim[L ~[]uint64](a L) words {
	n := len(a)
	for n > 0 && a[n-1] == 0 {
		n--
	}
	if n == 0 {
		return nil
	}
	return words(a[:n:n])
}

// word is the natural of one word.
func word(w uint64) words { return trim([]uint64{w}) }

func (a words) copied() words { return append(words(nil), a...) }

// at is the word at a place, 0 past the end.
func (a words) at(i int) uint64 {
	if i < len(a) {
		return a[i]
	}
	return 0
}

func (a words) bits() int {
	if len(a) == 0 {
		return 0
	}
	return len(a)*wordBits - bits.LeadingZeros64(a[len(a)-1])
}

// against is -1, 0, 1, as a is below b, is b, is above.
func (a words) against(b words) int {
	if len(a) != len(b) {
		return cmp.Compare(len(a), len(b))
	}
	for i := len(a) - 1; i >= 0; i-- {
		if a[i] != b[i] {
			return cmp.Compare(a[i], b[i])
		}
	}
	return 0
}

// carrier keeps from word to word what a sum carries or a difference borrows.
type carrier struct{ kept uint64 }

func (c *carrier) sum(x, y uint64) uint64 {
	z, kept := bits.Add64(x, y, c.kept)
	c.kept = kept
	return z
}

func (c *carrier) difference(x, y uint64) uint64 {
	z, kept := bits.Sub64(x, y, c.kept)
	c.kept = kept
	return z
}

// through makes n words by one step for each place of two numbers.
func through(n int, step func(x, y uint64) uint64, a, b words) words {
	made := make(words, n)
	for i := range n {
		made[i] = step(a.at(i), b.at(i))
	}
	return made
}

func (a words) plus(b words) words {
	var c carrier
	return through(max(len(a), len(b))+1, c.sum, a, b)
}

// less takes off a number that is not above a.
func (a words) less(b words) words {
	var c carrier
	return through(len(a), c.difference, a, b)
}

func (a words) times(b words) words {
	if len(a) == 0 || len(b) == 0 {
		return nil
	}
	made := make(words, len(a)+len(b))
	for i, w := range a {
		made[i+len(b)] = made[i:i+len(b)].addTimes(b, w)
	}
	return made
}

// addTimes adds b times a word in place, to as many words as b has, and answers what is carried past them.
func (a words) addTimes(b words, w uint64) uint64 {
	var carried uint64
	for i, y := range b {
		p := product(y, w).plus(a[i]).plus(carried)
		a[i], carried = p[0], p[1]
	}
	return carried
}

// takeTimes takes off b times a word in place, and answers what is borrowed past the words that b has.
func (a words) takeTimes(b words, w uint64) uint64 {
	var carried uint64
	for i, y := range b {
		p := product(y, w).plus(carried)
		var borrow uint64
		a[i], borrow = bits.Sub64(a[i], p[0], 0)
		carried = p[1] + borrow
	}
	return carried
}

// left is a times 2^n.
func (a words) left(n int) words {
	skip, shift := n/wordBits, n%wordBits
	made := make(words, skip+len(a)+1)
	for i, w := range a {
		made[skip+i] |= w << shift
		made[skip+i+1] = w >> (wordBits - shift)
	}
	return made
}

// right is a divided by 2^n, rounded down.
func (a words) right(n int) words {
	skip, shift := n/wordBits, n%wordBits
	if skip >= len(a) {
		return nil
	}
	made := make(words, len(a)-skip)
	for i := range made {
		made[i] = a[skip+i]>>shift | a.at(skip+i+1)<<(wordBits-shift)
	}
	return made
}

// anyBelow tells whether one of the n lowest bits is set.
func (a words) anyBelow(n int) bool {
	skip, shift := n/wordBits, n%wordBits
	for _, w := range a[:min(skip, len(a))] {
		if w != 0 {
			return true
		}
	}
	return a.at(skip)<<(wordBits-shift) != 0
}

// power is a to the power of n. What is reckoned on the way is never above what comes out.
func (a words) power(n int) words {
	made := word(1)
	for i := range bits.Len(uint(n)) {
		made = trim(made.times(made))
		if n>>(bits.Len(uint(n))-1-i)&1 == 1 {
			made = trim(made.times(a))
		}
	}
	return made
}
