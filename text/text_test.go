package text_test

import (
	"math"
	"regexp"
	"strings"
	"testing"

	"ulp/api"
	"ulp/probe"
	"ulp/text"
)

const (
	sign  uint64 = 1 << 63
	inf   uint64 = 0x7ff0000000000000
	nan   uint64 = 0x7ff8000000000000
	most  uint64 = 0x7fefffffffffffff
	least uint64 = 0x0010000000000000 // the least normal number

	over  = api.Overflow | api.Inexact
	under = api.Underflow | api.Inexact
)

func word(x float64) uint64 { return math.Float64bits(x) }

func noughts(n int) string { return strings.Repeat("0", n) }

// reads: Parse answers these bits and flags.
func reads(t *testing.T, s string, want uint64, flags api.Flags) {
	t.Helper()
	if r, why := text.Parse(s); r != (api.Result{Bits: want, Flags: flags}) || why != api.OK {
		t.Errorf("Parse(%.80q) = %x, flags %d, error %d; want %x, flags %d", s, r.Bits, r.Flags, why, want, flags)
	}
}

// readsBoth: so it is, and with either sign ahead.
func readsBoth(t *testing.T, s string, want uint64, flags api.Flags) {
	t.Helper()
	reads(t, s, want, flags)
	reads(t, "+"+s, want, flags)
	if want != nan {
		want |= sign
	}
	reads(t, "-"+s, want, flags)
}

// refuses: Parse answers this error, and nothing beside it.
func refuses(t *testing.T, s string, want api.Errno) {
	t.Helper()
	if r, why := text.Parse(s); r != (api.Result{}) || why != want {
		t.Errorf("Parse(%.80q) = %v, error %d; want error %d", s, r, why, want)
	}
}

// P28.1: texts without digits, in letters of either case.
func TestParseWords(t *testing.T) {
	for _, s := range []string{"inf", "INF", "Inf", "iNf", "inF", "infinity", "INFINITY", "Infinity", "iNFINITy", "infINIty"} {
		readsBoth(t, s, inf, 0)
	}
	for _, s := range []string{"nan", "NAN", "NaN", "nAn", "naN"} {
		readsBoth(t, s, nan, 0)
	}
	for _, s := range []string{
		"i", "in", "infi", "infin", "infini", "infinit", "infinityy", "infinity ", "inf ", " inf", "inff", "infinf", "inf.", "inf0", "0inf", "1inf", "infe1", "inf1", "infx", "infinite", "fin", "nf", "nfinity", "y", "+", "-", "++inf", "--inf", "+-inf", "-+inf", "inf-", "inf+",
		"n", "na", "nann", "nan ", " nan", "nan0", "nan()", "nan(1)", "nan.", "qnan", "snan", "an", "na n", "n an", "nanan", "+ nan", "--nan",
	} {
		refuses(t, s, api.ErrText)
		refuses(t, strings.ToUpper(s), api.ErrText)
	}
	for _, s := range []string{ // what looks like them, or is folded to them elsewhere
		"ınf", "İnf", "INFİNİTY", "ｉｎｆ", "inｆ", "ɴan", "nаn", "nan\x00", "inf\x00", "\x00inf", "in\xff", "inf\xff", "\xefinf", "na\xc3\xb1", "∞", "inﬁnity",
	} {
		refuses(t, s, api.ErrText)
	}
}

// P28.1: decimal digits, with points ahead of, among and behind them, exponents and signs.
func TestParseDecimal(t *testing.T) {
	for s, want := range map[string]float64{
		"0": 0, "00": 0, "000": 0, "0.": 0, ".0": 0, "0.0": 0, "0e0": 0, ".0e5": 0, "0.e-5": 0,
		"1": 1, "01": 1, "0001": 1, "1.": 1, "1.0": 1, "01.00": 1, ".5": 0.5, "0.5": 0.5, "00.5": 0.5, ".50": 0.5, "5.5": 5.5, "12.75": 12.75, "12.750": 12.75, "1234567890": 1234567890, "98765.4375": 98765.4375,
		"1e0": 1, "1e1": 10, "1E1": 10, "1e+1": 10, "1E+01": 10, "1e001": 10, "10e-1": 1, "10E-1": 1, "10e-01": 1, "1.e2": 100, ".5e1": 5, "0.5e+1": 5, "1.25e2": 125, "125e-2": 1.25, "0.0125e4": 125, "5e-1": 0.5, "1e22": 1e22, "1e-0": 1, "1e+0": 1, "1e00000000000000000000000000000000000003": 1000,
	} {
		readsBoth(t, s, word(want), 0)
	}
	for _, s := range []string{
		"", "+", "-", ".", "+.", "-.", "..", "...", "1..", "..1", "1..2", "1.2.3", ".1.", "1.e", "1.2e", "e", "E", "e5", ".e5", "+e5", "e+5", "1e", "1E", "1e+", "1e-", "1e++1", "1e--1", "1e+-1", "1e.", "1e.5", "1e1.", "1e1.5", "1e1e1", "1ee1", "1e1e", "1e 1", "1 e1", "1e1 ", "1e\x001",
		"--1", "++1", "+-1", "-+1", "1-", "1+", "1-1", "1+1", "- 1", "+ 1", " 1", "1 ", "\t1", "1\n", "\n", " ", "1 2", "1_0", "_1", "1_", "1e1_0", "1,5", "1'000", "1:2", "1/2", "1a", "a1", "0a", "1f", "1d", "1x", "1p1", "1.5p1", "0p1", "$1", "1%", "#1", "(1)",
		"１", "１2", "1２", "٣", "1٣", "१", "Ⅷ", "½", "²", "1²", "1e²", "1e１", "−1", "＋1", "﹣1", "1．5", "1·5", "1е1", "1ｅ1", "\xff", "1\xff", "\xff1", "1\x80", "1.\xc0", "1e\xfe", "1e1\xfe", "\xef\xbb\xbf1", "1\u0301", "1\u200b", "\u200b1", "1\x00", "\x001", "\ufffd",
	} {
		refuses(t, s, api.ErrText)
	}
}

// P28.1: hexadecimal digits, likewise.
func TestParseHexadecimal(t *testing.T) {
	for s, want := range map[string]float64{
		"0x0p0": 0, "0x00.00p7": 0, "0x.0p0": 0, "0x0.p-5": 0, "0X0P0": 0,
		"0x1p0": 1, "0x1P0": 1, "0X1p0": 1, "0X1P+0": 1, "0x1p-0": 1, "0x01p0": 1, "0x1.p0": 1, "0x1.0p0": 1, "0x.8p1": 1, "0x8p-3": 1, "0x1.8p1": 3, "0X1.8P+01": 3, "0x.8p0": 0.5, "0xap0": 10, "0xAp0": 10, "0xfFp0": 255, "0xabcdefp0": 0xabcdef, "0xABCDEFp-4": 0xabcde.fp0, "0x1.23p8": 0x123, "0xe.ep4": 0xee, "0x1ep1": 0x3c, "0x1e1p1": 0x3c2, "0x1p00000000000000000000000005": 32, "0x1p1023": 0x1p1023, "0x1p-1074": 0x1p-1074, "0x.0000000000001p-1022": 0x1p-1074, "0x0.8p-1073": 0x1p-1074,
	} {
		readsBoth(t, s, word(want), 0)
	}
	for _, s := range []string{
		"0x", "0X", "0xp", "0xp0", "0x.", "0x.p0", "0x1", "0x1.", "0x.1", "0x1.8", "0x1p", "0x1.8p", "0x1p+", "0x1p-", "0x1p++1", "0x1pa", "0x1p1a", "0x1p0x1", "0x1p1.", "0x1p1.5", "0x1pp1", "0x1p1p1", "0x1..8p0", "0x1.8.p0", "0x..p0", "0xg", "0x1gp0", "0x1e1", "0x1e+1", "0x1e+1p0", "0x+1p0", "0x-1p0", "0x 1p0", " 0x1p0", "0x1p0 ", "0x1 p0", "0x1p 0", "0x1_0p0", "0x_1p0", "0x1p1_0",
		"x1p0", "1x1p0", "00x1p0", "0xx1p0", "0x0x1p0", "01x1p0", "0.x1p0", "0b1p0", "0o1p0", "0h1p0", "+-0x1p0", "--0x1p0", "0x1p0\x00", "0x\xff.p0", "0x１p0", "0xａp0", "0x1р0", "0х1p0", "0x1p٣", "0x1p0f", "0xinf", "0xnan", "0xp1", "0x.p1", "0xinfp0",
	} {
		refuses(t, s, api.ErrText)
	}
}

// wellFormed are the texts of numbers, told in another way.
var wellFormed = regexp.MustCompile(`^[+-]?([iI][nN][fF]([iI][nN][iI][tT][yY])?|[nN][aA][nN]|([0-9]+\.?[0-9]*|\.[0-9]+)([eE][+-]?[0-9]+)?|0[xX]([0-9a-fA-F]+\.?[0-9a-fA-F]*|\.[0-9a-fA-F]+)[pP][+-]?[0-9]+)$`)

// checkForm tells whether a text is a number's, and holds Parse against it.
func checkForm(t *testing.T, s string) bool {
	t.Helper()
	is := wellFormed.MatchString(s)
	r, why := text.Parse(s)
	if is != (why == api.OK) || !is && (why != api.ErrText || r != api.Result{}) {
		t.Errorf("Parse(%q) = %v, error %d", s, r, why)
	}
	return is
}

// P28.1: all texts of few signs.
func TestParseForms(t *testing.T) {
	seen, right := 0, 0
	var grow func(s string, signs string, left int)
	grow = func(s, signs string, left int) {
		seen++
		if checkForm(t, s) {
			right++
		}
		if left == 0 {
			return
		}
		for _, r := range signs {
			grow(s+string(r), signs, left-1)
		}
	}
	grow("", "+-.01aexpE_ ", 4)
	grow("", "-.7e", 7)
	grow("0x", "-.a1p", 6)
	if right < 500 || seen-right < 50000 {
		t.Errorf("of %d texts %d are right", seen, right)
	}
}

// P28.1: right texts with one sign changed, added or taken away.
func TestParseOneSignOff(t *testing.T) {
	for _, s := range []string{"-infinity", "+NaN", "-12.75e+31", "+.5E-7", "0.25", "-0x1.8Cp-13", "+0X.fP+9", "0xa.p1"} {
		if !checkForm(t, s) {
			t.Errorf("%q is no number's text", s)
		}
		for i := range len(s) + 1 {
			for b := range 256 {
				added := string([]byte{byte(b)})
				checkForm(t, s[:i]+added+s[i:])
				if i < len(s) {
					checkForm(t, s[:i]+added+s[i+1:])
					checkForm(t, s[:i]+s[i+1:])
				}
			}
			for _, r := range "０５٣ｅｘİıK−．\ufffd\u200b" {
				checkForm(t, s[:i]+string(r)+s[i:])
			}
		}
	}
}

// P28.1: the longest texts, and longer ones, whatever they are.
func TestParseLength(t *testing.T) {
	for n, why := range map[int]api.Errno{api.MaxText: api.OK, api.MaxText + 1: api.ErrLong, 2 * api.MaxText: api.ErrLong} {
		for _, c := range []struct {
			head, tail string
			want       uint64
		}{
			{"", "1", word(1)}, {"-", "1", word(-1)}, {"0.5", "", word(0.5)}, {"2.", "", word(2)}, {"5e-", "1", word(0.5)}, {"1e+", "2", word(100)}, {"0x", "8p-3", word(1)}, {"0x1.", "p4", word(16)}, {"0x1p", "4", word(16)}, {"-", "", sign}, {"", "", 0}, {".", "", 0}, {"-0x.", "p9", sign},
		} {
			s := c.head + noughts(n-len(c.head)-len(c.tail)) + c.tail
			if why == api.OK {
				reads(t, s, c.want, 0)
			} else {
				refuses(t, s, why)
			}
		}
		wrong := why
		if why == api.OK {
			wrong = api.ErrText
		}
		for _, r := range []string{" ", "x", "\xff", "-", "e"} {
			refuses(t, strings.Repeat(r, n), wrong)
			refuses(t, noughts(n-1)+r, wrong)
		}
	}
}

// P28.1: exponents beyond an int's, of digits and of noughts.
func TestParseFarExponents(t *testing.T) {
	for _, e := range []string{"400", "5000", "99999", "2147483647", "2147483648", "4294967296", "4294967297", "9223372036854775807", "9223372036854775808", "18446744073709551616", "18446744073709551617", "1" + noughts(100), strings.Repeat("9", 3000)} {
		readsBoth(t, "1e"+e, inf, over)
		readsBoth(t, "1e-"+e, 0, under)
		readsBoth(t, "123.456E+"+e, inf, over)
		readsBoth(t, "0.00001e-"+e, 0, under)
		readsBoth(t, "0e"+e, 0, 0)
		readsBoth(t, "0.000e-"+e, 0, 0)
		readsBoth(t, "0x1p-"+strings.Repeat("9", 4)+e, 0, under)
		readsBoth(t, "0x.00001P+"+strings.Repeat("9", 4)+e, inf, over)
		readsBoth(t, "0x0.0p"+e, 0, 0)
		readsBoth(t, "0x0p-"+e, 0, 0)
		refuses(t, "1e"+e+".", api.ErrText)
	}
}

// P28.1: noughts ahead and behind, with an exponent that makes up for them.
func TestParseNoughts(t *testing.T) {
	for _, n := range []int{1, 19, 20, 64, 308, 324, 400, 1000, 1075, 2500, 4000} {
		for _, c := range []struct {
			s string
			x float64
		}{
			{noughts(n) + "12.5", 12.5}, {"12.5" + noughts(n), 12.5}, {"0." + noughts(n) + "125e" + itoa(n+2), 12.5}, {"." + noughts(n) + "125e+" + itoa(n+2), 12.5}, {"125" + noughts(n) + "e-" + itoa(n+1), 12.5}, {"125" + noughts(n) + ".0E-" + itoa(n+1), 12.5},
			{"0x" + noughts(n) + "c.8p0", 12.5}, {"0xc.8" + noughts(n) + "p0", 12.5}, {"0x." + noughts(n) + "c8p" + itoa(4*n+4), 12.5}, {"0xc8" + noughts(n) + "p-" + itoa(4*n+4), 12.5},
		} {
			readsBoth(t, c.s, word(c.x), 0)
		}
	}
}

// near: Near answers these bits and flags.
func near(t *testing.T, digits string, exp int, want uint64, flags api.Flags) {
	t.Helper()
	for _, neg := range []bool{false, true} {
		if r, why := text.Near(neg, digits, exp); r != (api.Result{Bits: want, Flags: flags}) || why != api.OK {
			t.Errorf("Near(%v, %.40q, %d) = %x, flags %d, error %d; want %x, flags %d", neg, digits, exp, r.Bits, r.Flags, why, want, flags)
		}
		want |= sign
	}
}

// P28.2
func TestNear(t *testing.T) {
	near(t, "25", -1, word(2.5), 0)
	near(t, "1", 0, word(1), 0)
	near(t, "0001", 2, word(100), 0)
	near(t, "1", 22, word(1e22), 0)
	near(t, "1", 23, word(1e23), api.Inexact)
	near(t, "1", -1, word(0.1), api.Inexact)
	near(t, "5", -324, 1, under)
	near(t, "2", -324, 0, under)
	near(t, "1", 309, inf, over)
	for _, exp := range []int{-api.MaxTen, -1, 0, 1, api.MaxTen} {
		near(t, "0", exp, 0, 0)
		near(t, noughts(api.MaxText), exp, 0, 0)
	}
	near(t, "1", -api.MaxTen, 0, under)
	near(t, "1", api.MaxTen, inf, over)
	near(t, strings.Repeat("9", api.MaxText), -api.MaxTen, 0, under)
	near(t, strings.Repeat("9", api.MaxText), api.MaxTen, inf, over)
	near(t, strings.Repeat("9", api.MaxText), -api.MaxText, word(1), api.Inexact)
	near(t, "1"+noughts(api.MaxText-1), 1-api.MaxText, word(1), 0)
	near(t, "1"+noughts(api.MaxText-1), -api.MaxText-300, word(1e-301), api.Inexact)
	near(t, noughts(api.MaxText-1)+"7", 0, word(7), 0)
}

// P28.2: errors, the first that applies.
func TestNearRefused(t *testing.T) {
	long, longWrong := noughts(api.MaxText+1), strings.Repeat("x", api.MaxText+1)
	far := []int{-api.MaxTen - 1, api.MaxTen + 1, math.MinInt, math.MaxInt}
	close := []int{-api.MaxTen, 0, api.MaxTen}
	check := func(digits string, exp int, want api.Errno) {
		t.Helper()
		for _, neg := range []bool{false, true} {
			if r, why := text.Near(neg, digits, exp); r != (api.Result{}) || why != want {
				t.Errorf("Near(%v, %.40q, %d) = %v, error %d; want error %d", neg, digits, exp, r, why, want)
			}
		}
	}
	for _, exp := range append(far, close...) {
		check(long, exp, api.ErrLong)
		check(longWrong, exp, api.ErrLong)
		for _, digits := range []string{"", " ", "-1", "+1", "1.", ".5", "1e1", "0x1", "a", "1a", "inf", "nan", "1_0", " 1", "1 ", "１", "1２", "٣", "\xff", "1\xff", "1\x00", "½", strings.Repeat("1", api.MaxText-1) + "x", strings.Repeat("x", api.MaxText)} {
			check(digits, exp, api.ErrText)
		}
	}
	for _, exp := range far {
		for _, digits := range []string{"0", "1", "007", noughts(api.MaxText)} {
			check(digits, exp, api.ErrRange)
		}
	}
}

// P28.2: what Parse answers of the same digits.
func TestNearAsParse(t *testing.T) {
	s := probe.Source(28)
	for range 3000 {
		digits := digitsOf(&s, 1+s.Below(40))
		exp := s.Below(700) - 350
		neg := s.Below(2) == 1
		head := ""
		if neg {
			head = "-"
		}
		want, _ := text.Parse(head + digits + "e" + itoa(exp))
		if r, why := text.Near(neg, digits, exp); r != want || why != api.OK {
			t.Errorf("Near(%v, %q, %d) = %v, error %d; Parse has %v", neg, digits, exp, r, why, want)
		}
	}
}

// The chapter's examples.
func TestExamples(t *testing.T) {
	reads(t, "0.1", 0x3fb999999999999a, api.Inexact)
	reads(t, "0x1.8p1", 0x4008000000000000, 0)
	reads(t, "1e400", 0x7ff0000000000000, api.Overflow|api.Inexact)
	reads(t, "2e-324", 0, api.Underflow|api.Inexact)
	reads(t, "-0", 0x8000000000000000, 0)
	for _, s := range []string{"1e", ".", "1_0"} {
		refuses(t, s, api.ErrText)
	}
	writes(t, 0x3fb999999999999a, "1e-1", "", "")
	writes(t, 1, "5e-324", "", "0x1p-1074")
	writes(t, 0x4340000000000000, "9.007199254740992e15", "", "")
	writes(t, 0x3fc0000000000000, "", "0.125", "")
	hasDigits(t, 0x3fb999999999999a, 20, "1.0000000000000000555e-1")
}
