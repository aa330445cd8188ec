package text

import (
	"strconv"
	"strings"

	"ulp/dyad"
	"ulp/nat"
)

// hexadecimal is the text of a finite number above 0, whose first bit stands ahead of the point.
func hexadecimal(x uint64) string {
	d, _ := dyad.From(x)
	size, _ := nat.Len(d.Abs)
	behind := d.Abs[0] << (wordSize*digitBits + 1 - size) // the first bit is shifted out
	text := "0x1"
	if behind > 0 {
		digits := strconv.FormatUint(behind, 16)
		digits = strings.Repeat("0", wordSize-len(digits)) + digits
		text += "." + strings.TrimRight(digits, "0")
	}
	return text + "p" + strconv.Itoa(d.Exp+size-1)
}
