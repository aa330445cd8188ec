package tables_test

import (
	"math/big"
	"reflect"
	"regexp"
	"slices"
	"strconv"
	"strings"
	"testing"

	"ulp/api"
	"ulp/dyad"
	"ulp/probe"
	"ulp/tables"
)

// printed is what must be answered.
func printed(t *testing.T, l []api.Dyad) string {
	t.Helper()
	s, why := tables.Print(l)
	if why != api.OK {
		t.Fatalf("Print of %d numbers: error %d", len(l), why)
	}
	return s
}

// read: Parse tells these numbers.
func read(t *testing.T, s string, want []api.Dyad) {
	t.Helper()
	l, why, at := tables.Parse(s)
	if why != api.OK || at != 0 || !slices.EqualFunc(l, want, func(a, b api.Dyad) bool { return reflect.DeepEqual(a, b) }) {
		t.Errorf("Parse(%.80q) = %v, error %d at %d", s, l, why, at)
	}
}

// unread: Parse tells the line at fault, and nothing beside it.
func unread(t *testing.T, s string, line int) {
	t.Helper()
	if l, why, at := tables.Parse(s); why != api.ErrTable || at != line || len(l) != 0 {
		t.Errorf("Parse(%.80q) = %v, error %d at %d, want line %d", s, l, why, at, line)
	}
}

// textOf is a number's line, as the tests write it.
func textOf(d api.Dyad) string {
	n, exp := new(big.Int), d.Exp
	for _, w := range slices.Backward(d.Abs) {
		n.Lsh(n, 64).Or(n, new(big.Int).SetUint64(w))
	}
	if n.Sign() == 0 {
		return "0x0p0\n"
	}
	low := n.TrailingZeroBits()
	sign := ""
	if d.Neg {
		sign = "-"
	}
	return sign + "0x" + n.Rsh(n, low).Text(16) + "p" + strconv.Itoa(exp+int(low)) + "\n"
}

// P26.3: Print of one number in any form, of 0, of numbers below 0, of many words.
func TestPrint(t *testing.T) {
	for _, c := range []struct {
		d    api.Dyad
		want string
	}{
		{api.Dyad{}, "0x0p0\n"}, {api.Dyad{Neg: true, Abs: api.Nat{0, 0}, Exp: 55}, "0x0p0\n"}, {dyad.Int(1), "0x1p0\n"}, {dyad.Int(-10), "-0x5p1\n"},
		{api.Dyad{Abs: api.Nat{12, 0}, Exp: -5}, "0x3p-3\n"}, {api.Dyad{Abs: api.Nat{0, 1}}, "0x1p64\n"}, {api.Dyad{Abs: api.Nat{1, 1}}, "0x10000000000000001p0\n"},
		{api.Dyad{Neg: true, Abs: api.Nat{0xabcdef0123456789, 0xf}, Exp: -api.MaxExp}, "-0xfabcdef0123456789p-32768\n"}, {api.Dyad{Abs: api.Nat{1}, Exp: api.MaxExp}, "0x1p32768\n"},
		{api.Dyad{Abs: api.Nat{0x0000000000000003, 0, 0x8000000000000000}}, "0x800000000000000000000000000000000000000000000003p0\n"},
	} {
		if s := printed(t, []api.Dyad{c.d}); s != c.want {
			t.Errorf("Print(%v) = %q, want %q", c.d, s, c.want)
		}
	}
	want := ""
	var list []api.Dyad
	for _, d := range slices.Concat(probe.Numbers(), probe.GreatNumbers()) {
		if _, why := dyad.Canon(d); why == api.OK {
			list = append(list, d)
			want += textOf(d)
		}
	}
	if s := printed(t, list); s != want || len(list) < 80 {
		t.Errorf("Print of %d numbers is not as they are", len(list))
	}
	if s := printed(t, nil); s != "" {
		t.Errorf("Print(nil) = %q", s)
	}
	if s := printed(t, []api.Dyad{}); s != "" {
		t.Errorf("Print of no numbers = %q", s)
	}
}

// P26.3: numbers that are not right, or have no room; too many.
func TestPrintRefused(t *testing.T) {
	refused := func(l []api.Dyad, want api.Errno) {
		t.Helper()
		if s, why := tables.Print(l); why != want || s != "" {
			t.Errorf("Print of %d numbers = %.20q, error %d, want %d", len(l), s, why, want)
		}
	}
	noRoom := api.Dyad{Abs: api.Nat{2}, Exp: api.MaxExp}
	for _, d := range append(probe.WrongNumbers(), noRoom) {
		refused([]api.Dyad{d}, api.ErrRange)
		refused([]api.Dyad{dyad.Int(1), {}, d, dyad.Int(3)}, api.ErrRange)
		refused(with(make([]api.Dyad, most), most-1, d), api.ErrRange)
		refused(with(make([]api.Dyad, most+1), 0, d), api.ErrMany)
	}
	refused(make([]api.Dyad, most+1), api.ErrMany)
	refused(make([]api.Dyad, 5*most), api.ErrMany)
	if s := printed(t, make([]api.Dyad, most)); s != strings.Repeat("0x0p0\n", most) {
		t.Error("Print of as many as there may be")
	}
}

// P26.3: what is no text of a table, and in which line.
func TestParseRefused(t *testing.T) {
	for _, line := range []string{
		"", " ", "0", "x", "p", "0x", "0xp0", "0x1", "0x1p", "1p0", "1", "0x1p0 ", " 0x1p0", "0x1p0\r", "0x1 p0", "0x 1p0", "\t0x1p0",
		"0x01p0", "0x00p0", "0x0001p5", "0x1p00", "0x1p05", "0x1p-05", "0x1p-0", "0x1p+0", "0x1p+5", "0x1p--5", "+0x1p0", "--0x1p0", "-0x0p0", "0x0p1", "0x0p-1", "0x0p-0",
		"0x2p0", "0x10p0", "-0x4p7", "0xap1", "0x1ep1", "0XFp0", "0xFp0", "0xABCDp1", "0x1P0", "0X1p0", "0xgp0", "0x1_1p0", "0x1p1_0", "0x0x1p0", "0x1p0x1", "0x1p0p0", "0x1.1p0", "0x1p1.0", "0x1p1e1",
		"0x1p32769", "0x1p-32769", "0x1p99999", "0x1p-99999999999999999999999", "0x1p99999999999999999999999", "0x1p9223372036854775808", "0x3p32769", "0x1p" + strings.Repeat("9", 5000),
		"0x1" + strings.Repeat("0", 16384-1) + "1p0", "0x" + strings.Repeat("f", 16385) + "p0", "0x" + strings.Repeat("0", 20000) + "1p0", "0x1\x00p0", "0x1p0\x00", "０x1p0", "0x１p0", "0x1p1\u0660",
	} {
		unread(t, line+"\n", 1)
		unread(t, "0x1p0\n0x0p0\n"+line+"\n", 3)
		unread(t, "0x1p0\n"+line+"\n-0x5p1\n", 2)
		unread(t, line+"\n"+line+"\n", 1)
		if line != "" {
			unread(t, line, 1)
			unread(t, "0x1p0\n"+line, 2)
		}
	}
	unread(t, "0x1p0", 1)
	unread(t, "0x1p0\n0x3p-1", 2)
	unread(t, "\n", 1)
	unread(t, "0x1p0\n\n", 2)
	unread(t, "\n0x1p0\n", 1)
	unread(t, "0x1p0\n\n\n0x1p0\n", 2)
	unread(t, "0x1p0\r\n", 1)
	unread(t, "0x3p-1\n0x2p0\n", 2)
}

// P26.3, P26.10: texts of tables.
func TestParse(t *testing.T) {
	read(t, "", nil)
	read(t, "0x0p0\n", []api.Dyad{{}})
	read(t, "0x3p-1\n0x0p0\n-0x5p1\n", []api.Dyad{{Abs: api.Nat{3}, Exp: -1}, {}, {Neg: true, Abs: api.Nat{5}, Exp: 1}})
	read(t, "0x1p32768\n-0xfp-32768\n", []api.Dyad{{Abs: api.Nat{1}, Exp: api.MaxExp}, {Neg: true, Abs: api.Nat{15}, Exp: -api.MaxExp}})
	read(t, "0x10000000000000001p-10\n", []api.Dyad{{Abs: api.Nat{1, 1}, Exp: -10}})
	read(t, "0x"+strings.Repeat("f", 16384)+"p0\n", []api.Dyad{{Abs: probe.Filled(api.MaxLimbs, ^uint64(0))}})
}

// P26.3: as many lines as there may be, and one more, whatever it is.
func TestParseMany(t *testing.T) {
	full := strings.Repeat("0x1p0\n", most)
	read(t, full, slices.Repeat([]api.Dyad{dyad.Int(1)}, most))
	for _, more := range []string{"0x1p0\n", "0x1p0", "\n", "x", "0x1p0\n0x1p0\n"} {
		unread(t, full+more, most+1)
	}
	unread(t, strings.Repeat("0x1p0\n", most-1)+"0x1p0", most)
	unread(t, strings.Repeat("0x1p0\n", most-1)+"\n0x1p0\n", most)
	unread(t, "0x2p0\n"+full, 1)
}

// entryText is what an entry's text looks like, but for bounds.
var entryText = regexp.MustCompile(`^(0x0p0|-?0x([1-9a-f][0-9a-f]*)?[13579bdf]p(0|-?[1-9][0-9]{0,4}))\n$`)

// firstWrong is the first line that is not as an entry's is; 0, if there is none.
func firstWrong(s string) int {
	line := 0
	for text := range strings.Lines(s) {
		line++
		if !entryText.MatchString(text) {
			return line
		}
		exp, _ := strconv.Atoi(strings.TrimSuffix(text[strings.IndexByte(text, 'p')+1:], "\n"))
		if exp < -api.MaxExp || exp > api.MaxExp {
			return line
		}
	}
	return 0
}

// checkText holds what Parse tells of a text against what the tests see in it: and what is read is written again as it was.
func checkText(t *testing.T, s string) {
	t.Helper()
	if line := firstWrong(s); line != 0 {
		unread(t, s, line)
		return
	}
	l, why, at := tables.Parse(s)
	if why != api.OK || at != 0 {
		t.Errorf("Parse(%q): error %d at %d", s, why, at)
	}
	if back := printed(t, l); back != s {
		t.Errorf("Parse(%q) is written as %q", s, back)
	}
}

// P26.3, P26.10: texts with one sign changed, added or taken away.
func TestParseChanged(t *testing.T) {
	const signs = "0123456789abcdefgABFpPxX+-._ \n\r\t\x00é"
	for _, s := range []string{"0x3p-1\n0x0p0\n-0x5p1\n", "0x10p7\n", "-0xabcp-10\n0x1p100\n", "0x1p32768\n", "0x123456789abcdef01p-32760\n0xfp9\n"} {
		checkText(t, s)
		for i := range len(s) + 1 {
			for _, r := range signs {
				checkText(t, s[:i]+string(r)+s[i:])
				if i < len(s) {
					checkText(t, s[:i]+string(r)+s[i+1:])
				}
			}
			if i < len(s) {
				checkText(t, s[:i]+s[i+1:])
				checkText(t, s[:i])
				checkText(t, s[i:])
			}
		}
	}
}

// P26.10: there and back, of numbers in any form and of whole tables.
func TestThereAndBack(t *testing.T) {
	var list, forms []api.Dyad
	for _, d := range slices.Concat(probe.Numbers(), probe.GreatNumbers()) {
		if form, why := dyad.Canon(d); why == api.OK {
			list, forms = append(list, d), append(forms, form)
		}
	}
	read(t, printed(t, list), forms)
	for _, k := range kinds {
		for _, c := range [][2]int{{0, 8}, {1, 53}, {5, 100}, {10, 256}} {
			l := allOf(t, k, c[0], c[1])
			read(t, printed(t, l), l)
		}
	}
}
