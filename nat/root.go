package nat

// root is the greatest natural whose power is at most a; degree is 2 or 3.
func (a words) root(degree int) words {
	if len(a) <= 1 {
		return word(wordRoot(a.at(0), degree))
	}
	// The root of half the bits, one more, is above the root and has half its bits right: Newton's steps are few from there.
	shift := a.bits() / (2 * degree)
	part := trim(a.right(shift * degree)).root(degree)
	return a.rootBelow(trim(trim(part.plus(word(1))).left(shift)), degree)
}

// rootBelow goes down from above the root by Newton's steps. None leads below the root, and all lead down till it is reached.
func (a words) rootBelow(above words, degree int) words {
	for {
		next := a.newton(above, degree)
		if next.against(above) >= 0 {
			return above
		}
		above = next
	}
}

// newton is the mean of as many numbers as the degree says: x, all times but one, and a divided by x as often.
func (a words) newton(x words, degree int) words {
	quotient, _ := a.over(x.power(degree - 1))
	sum := trim(x.times(word(uint64(degree - 1)))).plus(trim(quotient))
	sum.divideBy(uint64(degree))
	return trim(sum)
}

// wordRoot is the root of a word, bit by bit from the top.
func wordRoot(w uint64, degree int) uint64 {
	var root uint64
	rootBits := (wordBits + degree - 1) / degree
	for i := range rootBits {
		more := root | 1<<(rootBits-1-i)
		if powerAtMost(more, degree, w) {
			root = more
		}
	}
	return root
}

// powerAtMost tells whether a root's power is at most a word.
func powerAtMost(root uint64, degree int, w uint64) bool {
	power := pair{root, 0}
	for range degree - 1 {
		power = product(power[0], root)
		if power.above(pair{w, 0}) {
			return false
		}
	}
	return true
}
