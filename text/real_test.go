package text_test

import (
	"math"
	"math/big"
	"slices"
	"strconv"
	"strings"
	"testing"

	"ulp/api"
	"ulp/probe"
	"ulp/text"
)

func itoa(n int) string { return strconv.Itoa(n) }

// digitsOf are n decimal digits without a pattern.
func digitsOf(s *probe.Source, n int) string {
	list := make([]byte, n)
	for i := range list {
		list[i] = '0' + byte(s.Below(10))
	}
	return string(list)
}

// floats are finite numbers above 0: edges, subnormal ones, powers of 2 and of 10 with their neighbours, some without a pattern.
func floats() []uint64 {
	list := []uint64{1, 2, 3, 4, 5, 6, 7, 9, 10, 99, 1 << 20, 1<<20 + 1, least - 2, least - 1, least, least + 1, most - 1, most}
	for exp := -1074; exp < 1024; exp += 13 {
		list = around(list, math.Ldexp(1, exp))
	}
	for exp := -323; exp <= 308; exp += 5 {
		list = around(list, math.Pow10(exp))
	}
	for _, x := range []float64{1, 2, 10, 100, 1e15, 1e16, 1e17, 1e22, 1e23, 1 << 52, 1 << 53, 1 << 54, 9007199254740993, 0.1, 0.3, 5e-324, 2.2250738585072014e-308, 1.7976931348623157e308} {
		list = around(list, x)
	}
	s := probe.Source(128)
	for range 150 {
		list = append(list, s.Word()%(inf-1)+1, word(math.Abs(s.Float(s.Below(70)-10))), s.Word()>>12>>s.Below(50)|1)
	}
	slices.Sort(list)
	return slices.Compact(list)
}

// around puts a number and its neighbours to a list.
func around(list []uint64, x float64) []uint64 {
	for _, w := range []uint64{word(x) - 1, word(x), word(x) + 1} {
		if w > 0 && w < inf {
			list = append(list, w)
		}
	}
	return list
}

// rat is the real number that a finite one is.
func rat(x uint64) *big.Rat { return new(big.Rat).SetFloat64(math.Float64frombits(x)) }

// middle is the number halfway between a number from 0 on and the next one.
func middle(x uint64) *big.Rat {
	if x == most { // as if there were more exponents
		return new(big.Rat).Add(rat(most), new(big.Rat).SetInt(new(big.Int).Lsh(big.NewInt(1), 970)))
	}
	sum := new(big.Rat).Add(rat(x), rat(x+1))
	return sum.Quo(sum, big.NewRat(2, 1))
}

// rounded is a real number to the nearest binary64, with the exceptions, by the library and by the document's words.
func rounded(x *big.Rat) api.Result {
	f, _ := x.Float64()
	r := api.Result{Bits: word(f)}
	if !math.IsInf(f, 0) && rat(r.Bits).Cmp(x) == 0 {
		return r
	}
	r.Flags = api.Inexact
	amount := new(big.Rat).Abs(x)
	tiny := new(big.Rat).Sub(rat(least), new(big.Rat).SetFrac(big.NewInt(1), new(big.Int).Lsh(big.NewInt(1), 1076)))
	switch {
	case math.IsInf(f, 0):
		r.Flags |= api.Overflow
	case amount.Cmp(tiny) < 0:
		r.Flags |= api.Underflow
	}
	if x.Sign() < 0 { // the library knows no zero below 0 here
		r.Bits |= sign
	}
	return r
}

// readsAs: a text, with either sign, is read as a real number is rounded.
func readsAs(t *testing.T, s string, x *big.Rat) {
	t.Helper()
	r := rounded(x)
	readsBoth(t, s, r.Bits, r.Flags)
}

// plainOf is a positive number's text with all digits; its denominator is a power of 2, of at most 2^1076.
func plainOf(x *big.Rat) string {
	s := x.FloatString(1080)
	return strings.TrimRight(strings.TrimRight(s, "0"), ".")
}

// sides are what is told just below a point of change, at it, and just above it.
func sides(x uint64) (below, at, above api.Result) {
	flags := api.Inexact
	if x < least {
		flags = rounded(middle(x)).Flags
	}
	below, at, above = api.Result{Bits: x, Flags: flags}, api.Result{Bits: x + x%2, Flags: flags}, api.Result{Bits: x + 1, Flags: flags}
	if x == most {
		at.Flags, above.Flags = over, over
	}
	return below, at, above
}

// P28.1: halfway between two numbers, and just above and below that, with a digit other than 0 far behind.
func TestParseHalfway(t *testing.T) {
	for i, x := range append(floats(), 0) {
		s := plainOf(middle(x))
		if !strings.Contains(s, ".") {
			s += "."
		}
		below, at, above := sides(x)
		places := []int{1, 60}
		if i%8 == 0 {
			places = append(places, api.MaxText-2-len(s))
		}
		readsBoth(t, s, at.Bits, at.Flags)
		for _, far := range places {
			readsBoth(t, s+noughts(far), at.Bits, at.Flags)
			readsBoth(t, s+noughts(far)+"1", above.Bits, above.Flags)
			readsBoth(t, lessOne(s, far), below.Bits, below.Flags)
		}
	}
}

// lessOne is a text with a point, less one of a place that lies so far behind its last one.
func lessOne(s string, far int) string {
	digits := []byte(s + noughts(far))
	for i := len(digits) - 1; i >= 0; i-- {
		switch digits[i] {
		case '.':
		case '0':
			digits[i] = '9'
		default:
			digits[i]--
			return string(digits)
		}
	}
	return s
}

// P28.1: the same in hexadecimal digits.
func TestParseHexadecimalHalfway(t *testing.T) {
	for _, x := range append(floats(), 0) {
		mid := middle(x)
		n := new(big.Int).Mul(mid.Num(), new(big.Int).Quo(new(big.Int).Lsh(big.NewInt(1), 1080), mid.Denom()))
		digits := n.Text(16)
		below, at, above := sides(x)
		readsBoth(t, "0x"+digits+"p-1080", at.Bits, at.Flags)
		readsBoth(t, "0x."+strings.ToUpper(digits)+"P"+itoa(4*len(digits)-1080), at.Bits, at.Flags)
		for _, far := range []int{0, 1, 16, 60, 3000} {
			readsBoth(t, "0x"+digits+"."+noughts(far)+"1p-1080", above.Bits, above.Flags)
			less := new(big.Int).Sub(new(big.Int).Lsh(n, uint(4*far+4)), big.NewInt(1)).Text(16)
			readsBoth(t, "0x"+less+"p-"+itoa(1080+4*far+4), below.Bits, below.Flags)
		}
	}
}

// P28.1: the borders, written out.
func TestParseBorders(t *testing.T) {
	for _, c := range []struct {
		s     string
		x     uint64
		flags api.Flags
	}{
		{"1.7976931348623157e308", most, api.Inexact}, {"1.7976931348623158e308", most, api.Inexact}, {"1.7976931348623159e308", inf, over}, {"1.797693134862315807e308", most, api.Inexact}, {"1.797693134862315808e308", inf, over}, {"1.8e308", inf, over}, {"1e309", inf, over}, {"9e307", word(9e307), api.Inexact}, {"0.17976931348623157e309", most, api.Inexact}, {"17976931348623157e292", most, api.Inexact},
		{"0x1.fffffffffffffp1023", most, 0}, {"0x1.fffffffffffff7p1023", most, api.Inexact}, {"0x1.fffffffffffff7ffffffp1023", most, api.Inexact}, {"0x1.fffffffffffff8p1023", inf, over}, {"0x1p1024", inf, over}, {"0x.8p1025", inf, over}, {"0x.8p1024", word(0x1p1023), 0},
		{"2.2250738585072014e-308", least, api.Inexact}, {"2.2250738585072011e-308", least - 1, under}, {"2.2250738585072012e-308", least, under}, {"2.22507385850720125e-308", least, under}, {"2.22507385850720126e-308", least, api.Inexact}, {"2.225073858507201e-308", least - 1, under},
		{"0x1p-1022", least, 0}, {"0x.fffffffffffffp-1022", least - 1, 0}, {"0x.fffffffffffff8p-1022", least, under}, {"0x.fffffffffffffbp-1022", least, under}, {"0x.fffffffffffffbffffp-1022", least, under}, {"0x.fffffffffffffcp-1022", least, api.Inexact}, {"0x.fffffffffffffep-1022", least, api.Inexact}, {"0x.fffffffffffff7p-1022", least - 1, under},
		{"5e-324", 1, under}, {"4.9406564584124654e-324", 1, under}, {"3e-324", 1, under}, {"2.4703282292062328e-324", 1, under}, {"2.4703282292062327e-324", 0, under}, {"2e-324", 0, under}, {"1e-324", 0, under}, {"7e-324", 1, under}, {"8e-324", 2, under}, {"1e-400", 0, under},
		{"0x1p-1074", 1, 0}, {"0x1p-1075", 0, under}, {"0x1.8p-1075", 1, under}, {"0x1.00000000000000000001p-1075", 1, under}, {"0x.ffffp-1075", 0, under}, {"0x1.8p-1074", 2, under}, {"0x1p-1076", 0, under},
		{"9007199254740992", 0x4340000000000000, 0}, {"9007199254740993", 0x4340000000000000, api.Inexact}, {"9007199254740993.0000000000000000000000001", 0x4340000000000001, api.Inexact}, {"9007199254740995", 0x4340000000000002, api.Inexact}, {"9007199254740994", 0x4340000000000001, 0}, {"1e23", 0x44b52d02c7e14af6, api.Inexact}, {"8.5e22", word(8.5e22), api.Inexact},
		{"0.3", 0x3fd3333333333333, api.Inexact}, {"3.141592653589793", word(math.Pi), api.Inexact}, {"123456789012345678901234567890", word(123456789012345678901234567890), api.Inexact},
	} {
		readsBoth(t, c.s, c.x, c.flags)
	}
}

// P28.1: digits without a pattern, few and very many, with a point and an exponent.
func TestParseAnyDigits(t *testing.T) {
	s := probe.Source(281)
	for i := range 3000 {
		n := 1 + s.Below(30)
		if i%50 == 0 {
			n = s.Below(3000)
		}
		digits := "0" + digitsOf(&s, n)
		point := s.Below(len(digits) + 1)
		digits = digits[:point] + "." + digits[point:]
		exp := s.Below(720) - 360 - point
		if s.Below(3) == 0 {
			exp = s.Below(40) - 20
		}
		x, _ := new(big.Rat).SetString(digits)
		scale := new(big.Rat).SetInt(new(big.Int).Exp(big.NewInt(10), big.NewInt(int64(max(exp, -exp))), nil))
		if exp < 0 {
			scale.Inv(scale)
		}
		readsAs(t, digits+"e"+itoa(exp), x.Mul(x, scale))
	}
}

// P28.1: hexadecimal digits likewise.
func TestParseAnyHexadecimalDigits(t *testing.T) {
	s := probe.Source(282)
	for i := range 3000 {
		n := 1 + s.Below(2)
		if i%50 == 0 {
			n = s.Below(200)
		}
		a := new(big.Int)
		for range n {
			a.Lsh(a, 64).Or(a, new(big.Int).SetUint64(s.Word()>>s.Below(60)))
		}
		digits := a.Text(16)
		point := s.Below(len(digits) + 1)
		exp := s.Below(2300) - 1200
		if s.Below(3) == 0 {
			exp = s.Below(8) - 1078
		}
		x := new(big.Rat).SetInt(a)
		shift := new(big.Rat).SetInt(new(big.Int).Lsh(big.NewInt(1), uint(max(exp, -exp))))
		if exp < 0 {
			shift.Inv(shift)
		}
		readsAs(t, "0X"+digits[:point]+"."+digits[point:]+"p"+itoa(exp+4*(len(digits)-point)), x.Mul(x, shift))
	}
}

// P28.1: what the library reads, of its own texts.
func TestParseAsTheLibrary(t *testing.T) {
	for _, x := range floats() {
		f := math.Float64frombits(x)
		for _, s := range []string{strconv.FormatFloat(f, 'e', -1, 64), strconv.FormatFloat(f, 'E', 16, 64), strconv.FormatFloat(f, 'f', -1, 64), strconv.FormatFloat(f, 'x', -1, 64), strconv.FormatFloat(f, 'e', 12, 64), strconv.FormatFloat(f, 'X', 5, 64)} {
			want, _ := strconv.ParseFloat(s, 64)
			if r, why := text.Parse(s); r.Bits != word(want) || why != api.OK {
				t.Errorf("Parse(%q) = %x, error %d; the library has %x", s, r.Bits, why, word(want))
			}
		}
	}
}
