package text_test

import (
	"math"
	"math/big"
	"strings"
	"testing"

	"ulp/api"
	"ulp/bits"
	"ulp/probe"
	"ulp/text"
)

// everything are numbers of either sign, infinities, zeros, what is no number.
func everything() []uint64 {
	list := []uint64{0, sign, inf, inf | sign, nan, nan | sign, inf + 1, math.MaxUint64}
	for _, x := range append(floats(), ties()...) {
		list = append(list, x, x|sign)
	}
	s := probe.Source(286)
	for range 2000 {
		list = append(list, s.Word())
	}
	return list
}

// P28.6: what is written is read back.
func TestReadBack(t *testing.T) {
	for _, x := range everything() {
		want := x
		if bits.Abs(x) > inf {
			want = nan
		}
		for _, s := range []string{text.Exact(x), text.Hex(x)} {
			reads(t, s, want, 0)
		}
		seventeen, _ := text.Digits(x, 17)
		for _, s := range []string{text.Shortest(x), seventeen} {
			if r, why := text.Parse(s); r.Bits != want || why != api.OK {
				t.Errorf("%x is written %q, and read back %x, error %d", x, s, r.Bits, why)
			}
			if r, _ := text.Parse(strings.ToUpper(s)); r.Bits != want {
				t.Errorf("%x is written %q, and read back in capitals %x", x, s, r.Bits)
			}
		}
	}
}

// P28.6: what is read back has no flag just where the digits are all.
func TestReadBackFlags(t *testing.T) {
	for _, x := range floats() {
		value, _ := new(big.Rat).SetString(text.Shortest(x))
		r, _ := text.Parse(text.Shortest(x))
		if (r.Flags == 0) != (value.Cmp(rat(x)) == 0) {
			t.Errorf("%q is read with flags %d", text.Shortest(x), r.Flags)
		}
	}
}

// P28.7: no text of fewer digits is read as the number.
func TestFewest(t *testing.T) {
	for _, x := range append(floats(), ties()...) {
		s := text.Shortest(x)
		head, _, _ := strings.Cut(s, "e")
		digits := strings.Replace(head, ".", "", 1)
		if digits[0] == '0' || digits[len(digits)-1] == '0' {
			t.Errorf("Shortest(%x) = %q", x, s)
		}
		if len(digits) == 1 {
			continue
		}
		fewer, _ := text.Digits(x, len(digits)-1)
		for _, by := range []int64{-1, 0, 1} {
			if r, _ := text.Parse(stepOf(fewer, by)); r.Bits == x {
				t.Errorf("Shortest(%x) = %q, but %q does", x, s, stepOf(fewer, by))
			}
		}
	}
}

// P28.8: of texts of whole numbers what is read rises.
func TestRising(t *testing.T) {
	check := func(n *big.Int, count int) {
		last := uint64(0)
		for range count {
			r, why := text.Parse(n.String())
			if why != api.OK || r.Bits < last {
				t.Errorf("Parse(%q) = %x, error %d, behind %x", n.String(), r.Bits, why, last)
			}
			last = r.Bits
			n.Add(n, big.NewInt(1))
		}
	}
	check(new(big.Int), 2000)
	for _, exp := range []uint{20, 52, 53, 54, 60, 64, 128, 1023} {
		n := new(big.Int).Lsh(big.NewInt(1), exp)
		check(n.Sub(n, big.NewInt(300)), 600)
	}
	for _, exp := range []int64{5, 15, 16, 17, 22, 23, 300, 308} {
		n := new(big.Int).Exp(big.NewInt(10), big.NewInt(exp), nil)
		check(n.Sub(n, big.NewInt(100)), 200)
	}
	last, s := uint64(0), "1"
	for len(s) < api.MaxText-10 {
		r, _ := text.Parse(s)
		if r.Bits < last || len(s) < 300 && r.Bits == last {
			t.Errorf("Parse(%.40q), %d digits, = %x, behind %x", s, len(s), r.Bits, last)
		}
		last, s = r.Bits, s+"7"+s[:len(s)/8]
	}
}

// P28.8: a longer run of zeros behind a point changes nothing.
func TestNoughtsBehind(t *testing.T) {
	for _, s := range []string{"0", "-0", "1", "0.1", "-123.456", "9007199254740993", "2.4703282292062327e-324", "1.7976931348623159e308", "1e400", "-1e-400", "0x1.8", "0x1.fffffffffffff8", "-0x0"} {
		head, mark := s, ""
		if strings.Contains(s, "0x") {
			mark = "p1023"
		} else if before, after, is := strings.Cut(s, "e"); is {
			head, mark = before, "e"+after
		}
		if !strings.Contains(head, ".") {
			head += "."
		}
		want, why := text.Parse(head + mark)
		if why != api.OK {
			t.Fatalf("Parse(%q): error %d", head+mark, why)
		}
		for _, n := range []int{1, 2, 15, 16, 17, 100, 1000, api.MaxText - len(head+mark)} {
			reads(t, head+noughts(n)+mark, want.Bits, want.Flags)
		}
	}
}

// digitsAndExponent are those of a text of Exact's: all digits from the first one other than 0 on, and where it stands.
func digitsAndExponent(s string) (digits string, exp int) {
	ahead, behind, _ := strings.Cut(s, ".")
	digits = strings.TrimLeft(ahead+behind, "0")
	return digits, len(digits) - 1 - len(behind)
}

// cut is a whole number of digits cut to n and rounded, of two at one distance to the even one, with the exponent of its first digit.
func cut(digits string, exp, n int) (string, int) {
	a, _ := new(big.Int).SetString(digits, 10)
	scale := new(big.Int).Exp(big.NewInt(10), big.NewInt(int64(len(digits)-n)), nil)
	q, rest := new(big.Int).QuoRem(a, scale, new(big.Int))
	order := rest.Lsh(rest, 1).Cmp(scale)
	if order > 0 || order == 0 && q.Bit(0) == 1 {
		q.Add(q, big.NewInt(1))
	}
	s := q.String()
	return s[:n], exp + len(s) - n
}

// P28.9
func TestDigitsOfExact(t *testing.T) {
	for _, x := range append(floats(), ties()...) {
		digits, exp := digitsAndExponent(text.Exact(x))
		for _, n := range []int{1, 2, 3, 7, 16, 17, 25, len(digits) - 1, len(digits), len(digits) + 1, len(digits) + 100} {
			if n < 1 {
				continue
			}
			want, at := digits, exp
			if n < len(digits) {
				want, at = cut(digits, exp, n)
			}
			want += noughts(n - len(want))
			if len(want) > 1 {
				want = want[:1] + "." + want[1:]
			}
			hasDigits(t, x, n, want+"e"+itoa(at))
		}
	}
}

// P28.5: the same text, the same answer, whatever is asked between.
func TestSame(t *testing.T) {
	s := probe.Source(285)
	texts := []string{"0.1", "-inf", "1e400", "2e-324", "0x1.8p-1074", "x", "", noughts(api.MaxText + 1), "nan", "-0"}
	for range 300 {
		a := texts[s.Below(len(texts))]
		r, why := text.Parse(a)
		x := s.Word()
		first := text.Shortest(x) + text.Exact(x) + text.Hex(x)
		text.Parse(texts[s.Below(len(texts))])
		text.Shortest(s.Word())
		if again, whyToo := text.Parse(a); again != r || whyToo != why {
			t.Errorf("Parse(%.40q) answers %v, then %v", a, r, again)
		}
		if text.Shortest(x)+text.Exact(x)+text.Hex(x) != first {
			t.Errorf("%x is written in two ways", x)
		}
	}
}

// No call panics or goes on for ever, whatever it is given.
func TestAnything(t *testing.T) {
	s := probe.Source(287)
	const signs = "0123456789abcdefxpinty+-.ENXP\xff \xc3"
	for range 20000 {
		n := s.Below(12)
		if s.Below(200) == 0 {
			n = s.Below(api.MaxText + 100)
		}
		list := make([]byte, n)
		for i := range list {
			list[i] = signs[s.Below(len(signs))]
		}
		checkForm(t, string(list[:min(n, api.MaxText)]))
		text.Near(s.Below(2) == 0, string(list), int(int64(s.Word())))
		text.Near(s.Below(2) == 0, digitsOf(&s, n), s.Below(20000)-10000)
		text.Digits(s.Word(), int(int64(s.Word()))>>s.Below(64))
	}
}
