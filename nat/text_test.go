package nat_test

import (
	"math/big"
	"slices"
	"strings"
	"testing"

	"ulp/api"
	"ulp/nat"
	"ulp/probe"
)

// 3.5, 3.11
func TestTextThereAndBack(t *testing.T) {
	for _, a := range append(naturals(), greatOnes()...) {
		s, why := nat.Text(a)
		if want := value(a).String(); s != want || why != api.OK {
			t.Errorf("Text(%x) = %q, error %d", value(a), s, why)
		}
		back, why, at := nat.Parse(s)
		if len(s) > api.MaxText {
			if why != api.ErrLong || len(back) != 0 || at != 0 {
				t.Errorf("Parse of %d digits: error %d at %d, want ErrLong", len(s), why, at)
			}
			continue
		}
		expect(t, "Parse of Text", back, why, value(a))
		if at != 0 {
			t.Errorf("Parse(%q): a place %d without an error", s, at)
		}
	}
	ten := big.NewInt(1)
	for n := range 120 { // noughts on both sides of the words' ends
		for _, off := range []int64{-1, 0, 1} {
			want := new(big.Int).Add(ten, big.NewInt(off))
			got, why, at := nat.Parse(want.String())
			expect(t, "Parse", got, why, want)
			if text, _ := nat.Text(got); text != want.String() || at != 0 {
				t.Errorf("10^%d and %d: %s", n, off, text)
			}
		}
		ten.Mul(ten, big.NewInt(10))
	}
}

// 3.5: texts of no number, and the place where they cease to be one's.
func TestParseWrong(t *testing.T) {
	for s, want := range map[string]int{
		"": 0, "007": 1, "00": 1, "01": 1, "0a": 1, "0 ": 1, "12a": 2, "a": 0, "-1": 0, "+1": 0, " 1": 0, "1 ": 1, "1_0": 1,
		"1.5": 1, "1e5": 1, "/": 0, ":": 0, "9/": 1, "9:": 1, "\x00": 0, "\xff": 0, "5\xff": 1, "٣": 0, "12³": 2, "0x10": 1,
		"18446744073709551616x": 20, "00x": 1, strings.Repeat("9", api.MaxText-1) + "-": api.MaxText - 1,
	} {
		if got, why, at := nat.Parse(s); why != api.ErrNumber || at != want || len(got) != 0 {
			t.Errorf("Parse(%q) = %v, error %d at %d, want ErrNumber at %d", s, got, why, at, want)
		}
	}
}

// 3.5: the limit of length is told ahead of what the text is.
func TestParseLong(t *testing.T) {
	longest := strings.Repeat("7", api.MaxText)
	want, _ := new(big.Int).SetString(longest, 10)
	got, why, at := nat.Parse(longest)
	expect(t, "the longest text", got, why, want)
	if at != 0 {
		t.Error("a place without an error:", at)
	}
	for _, s := range []string{longest + "7", strings.Repeat("0", api.MaxText+1), strings.Repeat("x", api.MaxText+1), strings.Repeat("1", 1<<20)} {
		if got, why, at := nat.Parse(s); why != api.ErrLong || at != 0 || len(got) != 0 {
			t.Errorf("Parse of %d bytes: error %d at %d, want ErrLong", len(s), why, at)
		}
	}
}

// 3.6: reading the same text twice makes two numbers.
func TestParseNewMemory(t *testing.T) {
	a, _, _ := nat.Parse("340282366920938463463374607431768211455")
	b, _, _ := nat.Parse("340282366920938463463374607431768211455")
	one, other := nat.Of(9), nat.Of(9)
	if !probe.Apart([]api.Nat{a, b, one, other}) {
		t.Error("answers share memory")
	}
	list := api.Nat{all, all, 0}
	if _, why := nat.Text(list); why != api.OK || !slices.Equal(list, api.Nat{all, all, 0}) {
		t.Error("Text changed what it was handed:", list)
	}
}

// The chapter's third example.
func TestTextExamples(t *testing.T) {
	if s, why := nat.Text(api.Nat{0, 1}); s != "18446744073709551616" || why != api.OK {
		t.Error(s, why)
	}
	if s, why := nat.Text(nil); s != "0" || why != api.OK {
		t.Error(s, why)
	}
	if a, why, at := nat.Parse("0"); len(a) != 0 || why != api.OK || at != 0 {
		t.Error(a, why, at)
	}
}
