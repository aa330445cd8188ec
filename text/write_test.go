package text_test

import (
	"math"
	"math/big"
	"strconv"
	"strings"
	"testing"

	"ulp/api"
	"ulp/probe"
	"ulp/text"
)

// writes: a number's texts are these; "" is not looked at.
func writes(t *testing.T, x uint64, shortest, exact, hex string) {
	t.Helper()
	for _, c := range []struct {
		name, got, want string
	}{{"Shortest", text.Shortest(x), shortest}, {"Exact", text.Exact(x), exact}, {"Hex", text.Hex(x), hex}} {
		if c.want != "" && c.got != c.want {
			t.Errorf("%s(%x) = %.80q, want %.80q", c.name, x, c.got, c.want)
		}
	}
}

// writesBoth: so it is, and with - ahead of the other sign.
func writesBoth(t *testing.T, x uint64, shortest, exact, hex string) {
	t.Helper()
	writes(t, x, shortest, exact, hex)
	writes(t, x|sign, minus(shortest), minus(exact), minus(hex))
}

func minus(s string) string {
	if s == "" {
		return ""
	}
	return "-" + s
}

func hasDigits(t *testing.T, x uint64, n int, want string) {
	t.Helper()
	if s, why := text.Digits(x, n); s != want || why != api.OK {
		t.Errorf("Digits(%x, %d) = %.80q, error %d; want %.80q", x, n, s, why, want)
	}
}

// P28.3, P28.4: what has no digits of its own.
func TestWriteWords(t *testing.T) {
	writesBoth(t, 0, "0", "0", "0x0p0")
	writesBoth(t, inf, "inf", "inf", "inf")
	for _, x := range []uint64{nan, nan | sign, math.MaxUint64, inf + 1, inf + 1 | sign, 0x7ff4000000000000, most + 1<<52 | sign} {
		writes(t, x, "nan", "nan", "nan")
	}
	for _, n := range []int{1, 2, 17, api.MaxDigits} {
		hasDigits(t, 0, n, "0")
		hasDigits(t, sign, n, "-0")
		hasDigits(t, inf, n, "inf")
		hasDigits(t, inf|sign, n, "-inf")
		hasDigits(t, nan, n, "nan")
		hasDigits(t, nan|sign, n, "nan")
		hasDigits(t, inf+1, n, "nan")
	}
}

// P28.3, P28.4: numbers, written out.
func TestWriteNumbers(t *testing.T) {
	for _, c := range []struct {
		x                    float64
		shortest, exact, hex string
	}{
		{1, "1e0", "1", "0x1p0"}, {2, "2e0", "2", "0x1p1"}, {3, "3e0", "3", "0x1.8p1"}, {10, "1e1", "10", "0x1.4p3"}, {12, "1.2e1", "12", "0x1.8p3"}, {100, "1e2", "100", "0x1.9p6"}, {123456, "1.23456e5", "123456", "0x1.e24p16"}, {0.5, "5e-1", "0.5", "0x1p-1"}, {0.75, "7.5e-1", "0.75", "0x1.8p-1"}, {1.5, "1.5e0", "1.5", "0x1.8p0"}, {2.0625, "2.0625e0", "2.0625", "0x1.08p1"}, {0.0009765625, "9.765625e-4", "0.0009765625", "0x1p-10"}, {1 + 0x1p-52, "1.0000000000000002e0", "1.0000000000000002220446049250313080847263336181640625", "0x1.0000000000001p0"}, {1 - 0x1p-53, "9.999999999999999e-1", "0.99999999999999988897769753748434595763683319091796875", "0x1.fffffffffffffp-1"},
		{0.1, "1e-1", "0.1000000000000000055511151231257827021181583404541015625", "0x1.999999999999ap-4"}, {0.3, "3e-1", "0.299999999999999988897769753748434595763683319091796875", "0x1.3333333333333p-2"}, {1.0 / 3, "3.333333333333333e-1", "0.333333333333333314829616256247390992939472198486328125", "0x1.5555555555555p-2"}, {0x1.01p0, "1.00390625e0", "1.00390625", "0x1.01p0"}, {0x1.001p7, "1.2803125e2", "128.03125", "0x1.001p7"}, {0x1.00000001p40, "1.099511628032e12", "1099511628032", "0x1.00000001p40"},
		{1e15, "1e15", "1000000000000000", ""}, {1e21, "1e21", "1000000000000000000000", ""}, {1e22, "1e22", "10000000000000000000000", ""}, {1e23, "1e23", "99999999999999991611392", ""}, {math.Nextafter(1e23, 2e23), "1.0000000000000001e23", "100000000000000008388608", ""}, {1 << 53, "9.007199254740992e15", "9007199254740992", "0x1p53"}, {5e-324, "5e-324", "", "0x1p-1074"}, {1e-323, "1e-323", "", "0x1p-1073"}, {1.5e-323, "1.5e-323", "", "0x1.8p-1073"}, {2e-323, "2e-323", "", "0x1p-1072"},
		{math.MaxFloat64, "1.7976931348623157e308", "", "0x1.fffffffffffffp1023"}, {0x1p-1022, "2.2250738585072014e-308", "", "0x1p-1022"}, {0x1p-1022 - 0x1p-1074, "2.225073858507201e-308", "", "0x1.ffffffffffffep-1023"}, {0x1p-1023, "1.1125369292536007e-308", "", "0x1p-1023"}, {0x1p1023, "8.98846567431158e307", "", "0x1p1023"}, {0x1p-1071, "4e-323", "", "0x1p-1071"}, {9.5367431640625e-07, "9.5367431640625e-7", "0.00000095367431640625", "0x1p-20"},
	} {
		writesBoth(t, word(c.x), c.shortest, c.exact, c.hex)
	}
	if got := text.Exact(1); got != "0."+noughts(323)+leastDigits() || len(got) != 2+1074 {
		t.Errorf("Exact(1) = %q", got)
	}
	if got := text.Exact(most); len(got) != 309 || got[:17] != "17976931348623157" || got[304:] != "58368" {
		t.Errorf("Exact of the greatest = %q", got)
	}
}

// leastDigits are those of the least number, 5^1074.
func leastDigits() string { return new(big.Int).Exp(big.NewInt(5), big.NewInt(1074), nil).String() }

// exponent of the library's texts is written as the document has it.
func exponentOf(s, mark string) string {
	head, tail, _ := strings.Cut(s, mark)
	n, _ := strconv.Atoi(tail)
	return head + mark + itoa(n)
}

// shortestOf tries texts of ever more digits: the two next to a number, and takes the nearest that is read back.
func shortestOf(x uint64) string {
	f, real := math.Float64frombits(x), rat(x)
	for n := 1; ; n++ {
		near := strconv.FormatFloat(f, 'e', n-1, 64) // rounded: one of the two; the other lies on the other side
		best, least := "", new(big.Rat)
		for _, s := range []string{near, stepOf(near, 1), stepOf(near, -1)} {
			if back, _ := strconv.ParseFloat(s, 64); back != f {
				continue
			}
			value, _ := new(big.Rat).SetString(s)
			off := value.Sub(value, real)
			off.Abs(off)
			if order := off.Cmp(least); best == "" || order < 0 || order == 0 && isEven(s) {
				best, least = s, off
			}
		}
		if best != "" {
			return cleaned(best)
		}
	}
}

// stepOf is a text of the library's with one more or less of its last digit.
func stepOf(s string, by int64) string {
	head, tail, _ := strings.Cut(s, "e")
	exp, _ := strconv.Atoi(tail)
	digits := strings.Replace(head, ".", "", 1)
	a, _ := new(big.Int).SetString(digits, 10)
	return a.Add(a, big.NewInt(by)).String() + "e" + itoa(exp-len(digits)+1)
}

func isEven(s string) bool {
	head, _, _ := strings.Cut(s, "e")
	return strings.ContainsRune("02468", rune(head[len(head)-1]))
}

// cleaned is a text in the document's form: one digit, a point, those behind it without noughts at the end.
func cleaned(s string) string {
	head, tail, _ := strings.Cut(s, "e")
	exp, _ := strconv.Atoi(tail)
	ahead, behind, _ := strings.Cut(head, ".")
	exp += len(ahead) - 1
	digits := strings.TrimRight(ahead+behind, "0")
	if len(digits) > 1 {
		digits = digits[:1] + "." + digits[1:]
	}
	return digits + "e" + itoa(exp)
}

// ties are numbers that lie halfway between two of the fewest digits that are read back: a last bit of 2^-2, 2^-3 ..
func ties() []uint64 {
	var list []uint64
	s := probe.Source(29)
	for exp := 2; exp < 12; exp++ {
		for range 30 {
			list = append(list, word(math.Ldexp(float64(1<<52|s.Word()%(1<<52)|1), -exp)))
		}
	}
	return append(list, word(1<<50+0.25), word(1<<50+0.75), word(1<<50+1.25), word(1<<50+1.75))
}

// P28.3, P28.7: the fewest digits, of several the nearest, of two at one distance the even one.
func TestShortest(t *testing.T) {
	for _, x := range append(floats(), ties()...) {
		want := shortestOf(x)
		if other := exponentOf(strconv.FormatFloat(math.Float64frombits(x), 'e', -1, 64), "e"); other != want {
			t.Fatalf("%x: the library has %q, trying %q", x, other, want)
		}
		writesBoth(t, x, want, "", "")
	}
	writesBoth(t, word(1<<50+0.25), "1.1258999068426242e15", "1125899906842624.25", "0x1.0000000000001p50")
	writesBoth(t, word(1<<50+0.75), "1.1258999068426248e15", "1125899906842624.75", "0x1.0000000000003p50")
}

// P28.3: small subnormal numbers, of which many texts of one digit are read as each.
func TestShortestSubnormal(t *testing.T) {
	for x := uint64(1); x < 3000; x++ {
		writes(t, x, shortestOf(x), "", "")
	}
}

// P28.3: all digits.
func TestExact(t *testing.T) {
	for _, x := range floats() {
		writesBoth(t, x, "", plainOf(rat(x)), "")
	}
}

// P28.4
func TestHex(t *testing.T) {
	for _, x := range floats() {
		writesBoth(t, x, "", "", exponentOf(strconv.FormatFloat(math.Float64frombits(x), 'x', -1, 64), "p"))
	}
	for shift := range 52 { // the last hexadecimal digits are 0
		x := math.Ldexp(float64(uint64(1)<<52|uint64(1)<<shift), -52)
		writesBoth(t, word(x), "", "", exponentOf(strconv.FormatFloat(x, 'x', -1, 64), "p"))
	}
}

// P28.4: how many digits there may be, whatever the number.
func TestDigitsRefused(t *testing.T) {
	for _, x := range []uint64{0, sign, 1, word(1.5), most, inf, inf | sign, nan, inf + 1} {
		for _, n := range []int{math.MinInt, -1024, -1, 0, api.MaxDigits + 1, api.MaxText, math.MaxInt} {
			if s, why := text.Digits(x, n); s != "" || why != api.ErrRange {
				t.Errorf("Digits(%x, %d) = %q, error %d", x, n, s, why)
			}
		}
	}
}

// P28.4: roundings that carry over to one digit more, and those at a distance of one half.
func TestDigitsRounded(t *testing.T) {
	for _, c := range []struct {
		x    float64
		n    int
		want string
	}{
		{1, 1, "1e0"}, {1, 2, "1.0e0"}, {1, 5, "1.0000e0"}, {10, 3, "1.00e1"}, {1234, 4, "1.234e3"}, {1234, 3, "1.23e3"}, {1236, 3, "1.24e3"}, {0.001, 1, "1e-3"},
		{0.5, 1, "5e-1"}, {1.5, 1, "2e0"}, {2.5, 1, "2e0"}, {3.5, 1, "4e0"}, {8.5, 1, "8e0"}, {9.5, 1, "1e1"}, {95, 1, "1e2"}, {85, 1, "8e1"}, {0.25, 1, "2e-1"}, {0.75, 1, "8e-1"}, {1.25, 2, "1.2e0"}, {1.75, 2, "1.8e0"}, {12.25, 3, "1.22e1"}, {12.75, 3, "1.28e1"}, {1.0625, 4, "1.062e0"}, {1.1875, 4, "1.188e0"}, {2.5000000000000004, 1, "3e0"}, {2.4999999999999996, 1, "2e0"}, {1125899906842624.25, 17, "1.1258999068426242e15"}, {1125899906842624.75, 17, "1.1258999068426248e15"},
		{9.96, 2, "1.0e1"}, {9.94, 2, "9.9e0"}, {99.5, 2, "1.0e2"}, {98.5, 2, "9.8e1"}, {999999.5, 6, "1.00000e6"}, {999998.5, 6, "9.99998e5"}, {0.99, 1, "1e0"}, {0.0996, 2, "1.0e-1"}, {999, 2, "1.0e3"}, {1099, 2, "1.1e3"}, {1995, 3, "2.00e3"}, {19999, 4, "2.000e4"}, {0.3, 16, "3.000000000000000e-1"}, {0.3, 17, "2.9999999999999999e-1"}, {math.MaxFloat64, 1, "2e308"}, {math.MaxFloat64, 17, "1.7976931348623157e308"}, {5e-324, 1, "5e-324"}, {5e-324, 17, "4.9406564584124654e-324"}, {1e23, 17, "9.9999999999999992e22"}, {1e23, 16, "9.999999999999999e22"}, {1e23, 15, "1.00000000000000e23"},
	} {
		hasDigits(t, word(c.x), c.n, c.want)
		hasDigits(t, word(-c.x), c.n, "-"+c.want)
	}
}

// P28.4: so many digits, few and many.
func TestDigits(t *testing.T) {
	for _, x := range append(floats(), ties()...) {
		for _, n := range []int{1, 2, 9, 15, 16, 17, 18, 40, 309, 766, 767, 768, api.MaxDigits} {
			want := exponentOf(strconv.FormatFloat(math.Float64frombits(x), 'e', n-1, 64), "e")
			hasDigits(t, x, n, want)
		}
	}
}
