package consts_test

import (
	"math"
	"math/big"
	"reflect"
	"slices"
	"strings"
	"testing"

	"ulp/api"
	"ulp/consts"
	"ulp/dyad"
	"ulp/ival"
	"ulp/nat"
	"ulp/probe"
)

var kinds = []api.ConstKind{api.ConstPi, api.ConstLn2, api.ConstLn10, api.ConstE, api.ConstInvPi, api.ConstInvLn2, api.ConstInvLn10}

var noKinds = []api.ConstKind{api.ConstNone, api.ConstCount, api.ConstCount + 1, 100, 255}

// someBits are the edges, many that are few, and some that are many.
func someBits() []int {
	list := []int{api.MaxBits, api.MaxCore, api.MaxWork - 1, api.MaxWork}
	for p := api.MinBits; p < 200; p++ {
		list = append(list, p)
	}
	for p := 200; p < api.MaxWork; p += 397 {
		list = append(list, p)
	}
	return list
}

// checkEnclosure holds an enclosure against the constant, as the tests know it.
func checkEnclosure(t *testing.T, k api.ConstKind, p int) {
	t.Helper()
	v, why := consts.Const(k, p)
	if why != api.OK {
		t.Errorf("Const(%d, %d): error %d", k, p, why)
		return
	}
	if form, _ := ival.Canon(v); !reflect.DeepEqual(form, v) {
		t.Errorf("Const(%d, %d) is not in its one form", k, p)
	}
	lo, hi := units(v.Lo), units(v.Hi)
	known := constant(k)
	if lo.Cmp(known.lo) > 0 || hi.Cmp(known.hi) < 0 {
		t.Errorf("Const(%d, %d) has the constant not in it", k, p)
	}
	width := new(big.Int).Sub(hi, lo)
	if lo.Sign() <= 0 || width.Lsh(width, uint(p)).Cmp(lo) > 0 {
		t.Errorf("Const(%d, %d) is too wide", k, p)
	}
}

// 9.1
func TestConst(t *testing.T) {
	for _, k := range kinds {
		for _, p := range someBits() {
			checkEnclosure(t, k, p)
		}
	}
}

// 9.1
func TestConstRefused(t *testing.T) {
	refused := func(k api.ConstKind, p int) {
		t.Helper()
		if v, why := consts.Const(k, p); why != api.ErrRange || !reflect.DeepEqual(v, api.Ival{}) {
			t.Errorf("Const(%d, %d) = %v, error %d, want ErrRange", k, p, v, why)
		}
	}
	for _, k := range kinds {
		for _, p := range []int{api.MinBits - 1, 1, 0, -1, -api.MinBits, math.MinInt, api.MaxWork + 1, 1 << 20, math.MaxInt} {
			refused(k, p)
		}
	}
	for _, k := range noKinds {
		for _, p := range []int{api.MinBits, 64, api.MaxWork, api.MinBits - 1, api.MaxWork + 1} {
			refused(k, p)
		}
	}
}

// 9.2: as people know them.
func TestKnownDigits(t *testing.T) {
	for k, want := range map[api.ConstKind]string{
		api.ConstPi:   "3.1415926535897932384626433832795028841971693993751058209749445923078164062862089986280348253421170679",
		api.ConstE:    "2.7182818284590452353602874713526624977572470936999595749669676277240766303535475945713821785251664274",
		api.ConstLn2:  "0.69314718055994530941723212145817656807550013436025",
		api.ConstLn10: "2.30258509299404568401799145468436420760110148862877",
	} {
		n := len(want) - 2
		if got, why := consts.Digits(k, n); why != api.OK || got != want {
			t.Errorf("Digits(%d, %d) = %s, error %d", k, n, got, why)
		}
	}
}

// checkDigits holds a text against the constant: as many digits, and those of the constant cut.
func checkDigits(t *testing.T, k api.ConstKind, n int) string {
	t.Helper()
	got, why := consts.Digits(k, n)
	if want := constant(k).cutDigits(n); why != api.OK || got != want {
		t.Errorf("Digits(%d, %d) = %s, error %d, want %s", k, n, got, why, want)
	}
	return got
}

// 9.2, 9.6
func TestDigits(t *testing.T) {
	for _, k := range kinds {
		longest := checkDigits(t, k, 500)
		for n := 1; n < 500; n++ {
			if s := checkDigits(t, k, n); !strings.HasPrefix(longest, s) || len(s) != n+2 {
				t.Errorf("Digits(%d, %d) = %s is no front of that of more", k, n, s)
			}
		}
	}
}

// checkBits holds a natural against the constant times 2^n.
func checkBits(t *testing.T, k api.ConstKind, n int) api.Nat {
	t.Helper()
	got, why := consts.Bits(k, n)
	if want := constant(k).cutBits(n); why != api.OK || natural(got).Cmp(want) != 0 {
		t.Errorf("Bits(%d, %d) = %x, error %d, want %x", k, n, natural(got), why, want)
	}
	if len(got) > 0 && got[len(got)-1] == 0 {
		t.Errorf("Bits(%d, %d) ends with a word 0", k, n)
	}
	return got
}

// 9.2, 9.6
func TestBits(t *testing.T) {
	most := api.MaxBits - 64
	for _, k := range kinds {
		checkBits(t, k, 1)
		for n := 2; n <= most; n++ {
			if n > 200 && n < most && n%17 != 0 {
				continue
			}
			half, _, _ := nat.Shr(checkBits(t, k, n), 1)
			if fewer := checkBits(t, k, n-1); !slices.Equal(half, fewer) {
				t.Errorf("Bits(%d, %d), divided by 2, is not that of one fewer", k, n)
			}
		}
	}
}

// 9.2
func TestCutsRefused(t *testing.T) {
	refused := func(k api.ConstKind, digits, bits int) {
		t.Helper()
		if s, why := consts.Digits(k, digits); why != api.ErrRange || s != "" {
			t.Errorf("Digits(%d, %d) = %q, error %d, want ErrRange", k, digits, s, why)
		}
		if n, why := consts.Bits(k, bits); why != api.ErrRange || len(n) != 0 {
			t.Errorf("Bits(%d, %d) = %v, error %d, want ErrRange", k, bits, n, why)
		}
	}
	for _, k := range kinds {
		refused(k, 0, 0)
		refused(k, -1, -1)
		refused(k, 501, api.MaxBits-63)
		refused(k, math.MinInt, math.MinInt)
		refused(k, math.MaxInt, math.MaxInt)
	}
	for _, k := range noKinds {
		refused(k, 1, 1)
		refused(k, 500, api.MaxBits-64)
		refused(k, 0, 0)
	}
}

// 9.3
func TestNewMemory(t *testing.T) {
	for _, k := range kinds {
		var answers []api.Nat
		for range 2 {
			for _, p := range []int{api.MinBits, 64, 500} {
				v, _ := consts.Const(k, p)
				answers = append(answers, v.Lo.Abs, v.Hi.Abs)
			}
			for _, n := range []int{1, 64, 300} {
				cut, _ := consts.Bits(k, n)
				answers = append(answers, cut)
			}
		}
		if !probe.Apart(answers) {
			t.Errorf("answers of constant %d share memory", k)
		}
		for _, a := range answers { // what is done with an answer is not seen in a later one
			clear(a)
		}
		checkEnclosure(t, k, 64)
		checkBits(t, k, 64)
	}
}

// 9.4
func TestMeet(t *testing.T) {
	list := []int{8, 9, 10, 11, 63, 64, 65, 100, 127, 128, 1000, 2048, 4096, 8192}
	for _, k := range kinds {
		var all []api.Ival
		for _, p := range list {
			v, _ := consts.Const(k, p)
			for i, w := range all {
				if !ival.Meets(v, w) {
					t.Errorf("constant %d at %d and %d bits: they do not meet", k, p, list[i])
				}
			}
			all = append(all, v)
		}
	}
}

// 9.5
func TestReciprocals(t *testing.T) {
	one := dyad.Int(1)
	for k, inverse := range map[api.ConstKind]api.ConstKind{api.ConstPi: api.ConstInvPi, api.ConstLn2: api.ConstInvLn2, api.ConstLn10: api.ConstInvLn10} {
		for _, p := range []int{8, 9, 64, 333, 2048, 8192} {
			v, _ := consts.Const(k, p)
			for _, q := range []int{8, p} {
				w, _ := consts.Const(inverse, q)
				if product, why := ival.Mul(v, w, api.MaxWork); why != api.OK || !ival.Has(product, one) {
					t.Errorf("constant %d at %d bits, its reciprocal at %d: 1 is not in the product", k, p, q)
				}
			}
		}
	}
	for _, p := range []int{8, 64, 8192} {
		two, _ := consts.Const(api.ConstLn2, p)
		ten, _ := consts.Const(api.ConstLn10, p)
		twice, _ := ival.Scale(two, 1)
		fourTimes, _ := ival.Scale(two, 2)
		above, _ := dyad.Cmp(ten.Lo, twice.Hi)
		below, _ := dyad.Cmp(ten.Hi, fourTimes.Lo)
		if above <= 0 || below >= 0 {
			t.Errorf("at %d bits ln 10 does not lie between 2 ln 2 and 4 ln 2", p)
		}
	}
}

// The chapter's examples.
func TestExamples(t *testing.T) {
	for _, c := range []struct {
		k    api.ConstKind
		n    int
		want string
	}{
		{api.ConstPi, 20, "3.14159265358979323846"}, {api.ConstLn2, 10, "0.6931471805"}, {api.ConstInvPi, 5, "0.31830"},
	} {
		if got, why := consts.Digits(c.k, c.n); why != api.OK || got != c.want {
			t.Errorf("Digits(%d, %d) = %s, error %d", c.k, c.n, got, why)
		}
	}
	if n, why := consts.Bits(api.ConstPi, 2); why != api.OK || !slices.Equal(n, api.Nat{12}) {
		t.Errorf("Bits(ConstPi, 2) = %v, error %d", n, why)
	}
	if _, why := consts.Const(api.ConstPi, 7); why != api.ErrRange {
		t.Errorf("Const(ConstPi, 7): error %d", why)
	}
}
