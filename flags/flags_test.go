package flags_test

import (
	"slices"
	"strings"
	"testing"

	"ulp/api"
	"ulp/flags"
)

const (
	invalid, divByZero, overflow, underflow, inexact = api.Invalid, api.DivByZero, api.Overflow, api.Underflow, api.Inexact
	all                                              = api.AllFlags
)

// everyByte are all values that flags can have, right or not.
func everyByte() []api.Flags {
	var list []api.Flags
	for i := range 256 {
		list = append(list, api.Flags(i))
	}
	return list
}

// P2.1
func TestSets(t *testing.T) {
	for _, f := range everyByte() {
		if got := flags.Right(f); got != (f < 32) {
			t.Errorf("Right(%d) = %t", f, got)
		}
		for _, g := range everyByte() {
			if got := flags.Has(f, g); got != (f|g == f) {
				t.Errorf("Has(%d, %d) = %t", f, g, got)
			}
			if got := flags.Join(f, g); got != f|g {
				t.Errorf("Join(%d, %d) = %d", f, g, got)
			}
			if got := flags.Meet(f, g); got != f&g {
				t.Errorf("Meet(%d, %d) = %d", f, g, got)
			}
			if got := flags.Take(f, g); got != f&^g {
				t.Errorf("Take(%d, %d) = %d", f, g, got)
			}
		}
	}
}

// P2.7
func TestLawsOfSets(t *testing.T) {
	list := append(everyByte()[:34], 64, 128, 0xaa, 0xff)
	for _, f := range list {
		for _, g := range list {
			if flags.Join(f, g) != flags.Join(g, f) || flags.Meet(f, g) != flags.Meet(g, f) {
				t.Errorf("%d, %d: not commutative", f, g)
			}
			if flags.Join(flags.Take(f, g), flags.Meet(f, g)) != f {
				t.Errorf("%d, %d: Take and Meet, joined, are not the first", f, g)
			}
			for _, h := range list {
				checkLawsOfThree(t, f, g, h)
			}
		}
	}
}

func checkLawsOfThree(t *testing.T, f, g, h api.Flags) {
	t.Helper()
	if flags.Join(f, flags.Join(g, h)) != flags.Join(flags.Join(f, g), h) || flags.Meet(f, flags.Meet(g, h)) != flags.Meet(flags.Meet(f, g), h) {
		t.Errorf("%d, %d, %d: not associative", f, g, h)
	}
	if flags.Meet(f, flags.Join(g, h)) != flags.Join(flags.Meet(f, g), flags.Meet(f, h)) || flags.Join(f, flags.Meet(g, h)) != flags.Meet(flags.Join(f, g), flags.Join(f, h)) {
		t.Errorf("%d, %d, %d: one does not go over the other", f, g, h)
	}
}

// P2.1
func TestMathOfFlags(t *testing.T) {
	for f, want := range map[api.Flags]api.MathErr{
		0:                   api.MathNone,
		inexact:             api.MathNone,
		invalid:             api.MathDomain,
		divByZero:           api.MathRange,
		overflow:            api.MathRange,
		underflow:           api.MathRange,
		underflow | invalid: api.MathDomain,
		overflow | inexact:  api.MathRange,
		all:                 api.MathDomain,
		32:                  api.MathNone, // bits that are no flags tell nothing
		0xe0:                api.MathNone,
		0xe0 | inexact:      api.MathNone,
		0xe0 | overflow:     api.MathRange,
		0xff:                api.MathDomain,
	} {
		if got := flags.Math(f); got != want {
			t.Errorf("Math(%d) = %d, want %d", f, got, want)
		}
	}
	for _, f := range everyByte() {
		if got, want := flags.Math(f), mathOf(f); got != want {
			t.Errorf("Math(%d) = %d, want %d", f, got, want)
		}
	}
}

func mathOf(f api.Flags) api.MathErr {
	if f%2 == 1 {
		return api.MathDomain
	}
	if f%16 != 0 {
		return api.MathRange
	}
	return api.MathNone
}

// P2.2, P2.8
func TestEach(t *testing.T) {
	if got := flags.Each(all); !slices.Equal(got, []api.Flags{1, 2, 4, 8, 16}) {
		t.Errorf("Each of all = %d", got)
	}
	if got := flags.Each(0xe0 | inexact | divByZero); !slices.Equal(got, []api.Flags{divByZero, inexact}) {
		t.Errorf("Each has what is no flag, or not all: %d", got)
	}
	for _, f := range everyByte() {
		var joined api.Flags
		got := flags.Each(f)
		for _, g := range got {
			joined = flags.Join(joined, g)
			if g&(g-1) != 0 || g == 0 {
				t.Errorf("Each(%d) has %d, not one flag", f, g)
			}
		}
		if joined != f&all || !slices.IsSorted(got) || len(slices.Compact(got)) != len(got) {
			t.Errorf("Each(%d) = %d", f, got)
		}
	}
}

// P2.6: answers are new memory.
func TestEachIsNewMemory(t *testing.T) {
	a := flags.Each(all)
	b := flags.Each(all)
	for i := range a {
		a[i] = 0
	}
	if !slices.Equal(b, []api.Flags{1, 2, 4, 8, 16}) || !slices.Equal(flags.Each(all), b) {
		t.Errorf("changed with an earlier answer: %d", b)
	}
}

// P2.2, P2.8
func TestShowAndParse(t *testing.T) {
	for f, want := range map[api.Flags]string{
		0:                   "none",
		invalid:             "invalid",
		divByZero:           "divbyzero",
		overflow:            "overflow",
		underflow:           "underflow",
		inexact:             "inexact",
		invalid | inexact:   "invalid inexact",
		underflow | inexact: "underflow inexact",
		all:                 "invalid divbyzero overflow underflow inexact",
	} {
		if got := flags.Show(f); got != want {
			t.Errorf("Show(%d) = %q, want %q", f, got, want)
		}
		if got, why := flags.Parse(want); got != f || why != api.OK {
			t.Errorf("Parse(%q) = %d, %d", want, got, why)
		}
	}
	for _, f := range everyByte() {
		s := flags.Show(f)
		got, why := flags.Parse(s)
		if f > all && (s != "" || got != 0 || why != api.ErrFlags) {
			t.Errorf("of %d, no flags: Show %q; Parse of it %d, %d", f, s, got, why)
		}
		if f <= all && (got != f || why != api.OK) {
			t.Errorf("Parse(%q) = %d, %d, want %d", s, got, why, f)
		}
	}
}

// P2.2
func TestParseRefuses(t *testing.T) {
	for _, s := range []string{
		"", " ", "\n", "\x00", "0", "nothing", "None", "NONE", "Invalid", "INEXACT",
		"inexact invalid", "divbyzero invalid", "inexact underflow", "underflow overflow", // another order
		"invalid  inexact", " invalid", "invalid ", "invalid\tinexact", "invalid\ninexact", "invalid\u00a0inexact", "none ", " none", "inexact\n", // other blanks
		"invalid invalid", "none none", "none invalid", "invalid none", "inexact inexact",
		"invalid,inexact", "invalidinexact", "invalid|inexact", "inexac", "inexacts", "div by zero", "invalid inexac", "invalid foo",
		"\xff", "invalid\x00", "überlauf", strings.Repeat("invalid ", 1<<16),
	} {
		if got, why := flags.Parse(s); got != 0 || why != api.ErrFlags {
			t.Errorf("Parse(%.40q) = %d, %d", s, got, why)
		}
	}
}

// P2.2, P2.8: of all texts of up to three names and none, just those that Show writes are taken.
func TestParseTakesJustTexts(t *testing.T) {
	names := []string{"invalid", "divbyzero", "overflow", "underflow", "inexact", "none"}
	shown := map[string]api.Flags{}
	for f := range all + 1 {
		shown[flags.Show(f)] = f
	}
	texts := slices.Clone(names)
	for _, a := range names {
		for _, b := range names {
			texts = append(texts, a+" "+b)
			for _, c := range names {
				texts = append(texts, a+" "+b+" "+c)
			}
		}
	}
	for _, s := range texts {
		want, right := shown[s]
		got, why := flags.Parse(s)
		if right && (got != want || why != api.OK || flags.Show(got) != s) || !right && (got != 0 || why != api.ErrFlags) {
			t.Errorf("Parse(%q) = %d, %d", s, got, why)
		}
	}
}
