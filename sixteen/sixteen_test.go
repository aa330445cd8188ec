package sixteen_test

import (
	"fmt"
	"math"
	"strings"
	"testing"

	"ulp/probe"
	"ulp/sixteen"
)

func TestThereAndBack(t *testing.T) {
	list := []uint64{0, 1, 9, 10, 15, 16, 0xabcdef, 1 << 59, 1 << 60, 1<<60 - 1, 1 << 63, 0x0123456789abcdef, 0xfedcba9876543210, math.MaxUint64}
	s := probe.Source(16)
	for range 500 {
		list = append(list, s.Word()>>s.Below(64))
	}
	for _, x := range list {
		shown := sixteen.Show(x)
		if shown != fmt.Sprintf("%016x", x) {
			t.Errorf("Show(%x) = %q", x, shown)
		}
		if y, is := sixteen.Read(shown); y != x || !is {
			t.Errorf("Read(%q) = %x, %v", shown, y, is)
		}
	}
}

func TestReadRefuses(t *testing.T) {
	right := "0123456789abcdef"
	list := []string{"", "0", "1", right[1:], right + "0", "0" + right, strings.ToUpper(right), "0123456789abcdeF", "+123456789abcdef", "-123456789abcdef", "0x23456789abcdef", "0123_456789abcde", strings.Repeat("0", 17), strings.Repeat("f", 17), strings.Repeat("0", 15), strings.Repeat("g", 16), strings.Repeat("é", 8), strings.Repeat("１", 16), strings.Repeat("\xff", 16), strings.Repeat("0", 100000)}
	for i := range right {
		for _, wrong := range []string{" ", "g", "`", "/", ":", "G", "A", "\x00", "\xff", "é", "\n", ""} {
			list = append(list, right[:i]+wrong+right[i+1:], right[:i]+wrong+" "+right[i:])
		}
	}
	for _, s := range list {
		if x, is := sixteen.Read(s); x != 0 || is {
			t.Errorf("Read(%.40q) = %x, %v", s, x, is)
		}
	}
}
