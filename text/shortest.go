package text

import (
	"strconv"
	"strings"

	"ulp/bits"
	"ulp/round"
)

// headDigits is how many digits of a number are looked at: one more than it takes to tell all numbers apart, so that what lies halfway between two of these is told, too.
const headDigits = 18

// head is how many of a unit a number has, and whether it has more than these.
type head struct {
	units uint64
	more  bool
}

// head is that of a number in units of 10^unit, so many places below its first digit that it has some.
func (d decimal) head(unit int) head {
	n := d.exp - unit + 1
	digits := d.digits + strings.Repeat("0", max(0, n-len(d.digits)))
	units, _ := strconv.ParseUint(digits[:n], 10, 64)
	return head{units, strings.Trim(digits[n:], "0") != ""}
}

// reach is a number, and from where to where all is read as it.
type reach struct {
	low, number, high head
	withEnds          bool
}

// shortest are the fewest digits that are read as a finite number above 0.
func shortest(x uint64) decimal {
	number := exactly(x)
	unit := number.exp - headDigits + 1
	low, _ := round.Mid(bits.Down(x))
	high, _ := round.Mid(x)
	r := reach{
		low:      decimalOf(low).head(unit),
		number:   number.head(unit),
		high:     decimalOf(high).head(unit),
		withEnds: x%2 == 0, // what is halfway is read as the even one
	}
	units := strconv.FormatUint(r.fewest(), 10)
	return decimal{strings.TrimRight(units, "0"), unit + len(units) - 1}
}

// fewest are the units of the number of the fewest digits within reach. A step that is 10 times as small leaves one digit more.
func (r reach) fewest() uint64 {
	step := uint64(1e17)
	for step > 10 && !r.hasBelow(step) && !r.hasAbove(step) {
		step /= 10
	}
	if !r.hasBelow(step) || r.hasAbove(step) && r.isAboveNearer(step) {
		return r.below(step) + step
	}
	return r.below(step)
}

// below is the greatest multiple of a step that is not above the number.
func (r reach) below(step uint64) uint64 { return r.number.units - r.number.units%step }

func (r reach) hasBelow(step uint64) bool {
	below := r.below(step)
	return below > r.low.units || below == r.low.units && !r.low.more && r.withEnds
}

func (r reach) hasAbove(step uint64) bool {
	above := r.below(step) + step
	return above < r.high.units || above == r.high.units && (r.high.more || r.withEnds)
}

// isAboveNearer tells which of the two multiples is chosen: of two as near the even one. A step is even, and what is more than units is less than one.
func (r reach) isAboveNearer(step uint64) bool {
	twice := r.number.units % step * 2
	if twice == step && !r.number.more {
		return r.below(step)/step%2 == 1
	}
	return twice >= step
}
