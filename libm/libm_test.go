package libm_test

import (
	"math"
	"slices"
	"strings"
	"testing"

	"ulp/api"
	"ulp/bits"
	"ulp/flags"
	"ulp/libm"
	"ulp/probe"
	"ulp/special"
	"ulp/ziv"
)

const (
	nan  uint64 = 0x7ff8000000000000
	sign uint64 = 1 << 63
	inf  uint64 = 0x7ff0000000000000
	one  uint64 = 0x3ff0000000000000
	most uint64 = 0x7fefffffffffffff
)

// names stand by the functions' numbers, from FuncExp on.
var names = strings.Fields("exp exp2 exp10 expm1 exp2m1 exp10m1 log log2 log10 log1p log2p1 log10p1 sin cos tan sinpi cospi tanpi asin acos atan asinpi acospi atanpi sinh cosh tanh asinh acosh atanh cbrt rsqrt atan2 atan2pi pow hypot")

var (
	quiet      = []uint64{nan, nan | sign, 0x7fffffffffffffff, math.MaxUint64, 0x7ff8000000000001, 0xfffc000000000000}
	signalling = []uint64{0x7ff0000000000001, 0xfff0000000000001, 0x7ff4000000000000, 0xfff7ffffffffffff}
	twos       = []api.Func{api.FuncAtan2, api.FuncAtan2pi, api.FuncPow, api.FuncHypot}
)

func word(x float64) uint64 { return math.Float64bits(x) }

func isTwo(f api.Func) bool { return slices.Contains(twos, f) }

// every are the functions.
func every() []api.Func {
	var list []api.Func
	for f := api.FuncExp; f <= api.FuncHypot; f++ {
		list = append(list, f)
	}
	return list
}

// none are numbers of no function.
func none() []api.Func {
	list := []api.Func{api.FuncNone}
	for n := int(api.FuncCount); n < 256; n++ {
		list = append(list, api.Func(n))
	}
	return list
}

// numbers are finite ones of either sign: zeros, subnormal ones, the least and the greatest, whole ones and halves, those at which rows, poles and domains begin, and their neighbours.
func numbers() []uint64 {
	list := []uint64{0, sign, 1, sign | 1, 0x000fffffffffffff, 0x800fffffffffffff, most, sign | most, most - 1}
	for _, x := range []float64{0x1p-1022, 1e-300, 0.25, 0.3, 0.5, 0.75, 1, 1.5, 2, 3, 10, 100.25, 709.7, 745.2, 1023.5, 1075, 1e6 + 0.5, 1<<52 - 0.5, 1<<53 - 1, 1 << 53, 1e300} {
		w := word(x)
		list = append(list, w, w|sign, w+1, (w-1)|sign)
	}
	return list
}

// words are the numbers, infinities, what is no number, and some without a pattern.
func words() []uint64 {
	list := slices.Concat(numbers(), quiet, signalling, []uint64{inf, inf | sign})
	s := probe.Source(27)
	for range 12 {
		list = append(list, s.Word(), word(s.Float(s.Below(20)-10)))
	}
	return list
}

// is: Call answers this at each stage.
func is(t *testing.T, c row) {
	t.Helper()
	for stage := range 3 {
		if r, why := libm.Call(c.f, c.x, c.y, stage); r != (api.Result{Bits: c.value, Flags: c.flags}) || why != api.OK {
			t.Errorf("Call(%s, %x, %x, %d) = %x, flags %d, error %d; want %x, flags %d", libm.Name(c.f), c.x, c.y, stage, r.Bits, r.Flags, why, c.value, c.flags)
		}
	}
}

// 27.1: of every number of a function, and of none.
func TestNamesAndArgs(t *testing.T) {
	if len(names) != int(api.FuncCount)-1 {
		t.Fatal("names:", len(names))
	}
	for _, f := range every() {
		args := 1
		if isTwo(f) {
			args = 2
		}
		if libm.Name(f) != names[f-1] || libm.Args(f) != args {
			t.Errorf("function %d: name %q, %d arguments", f, libm.Name(f), libm.Args(f))
		}
		if g, is := libm.Find(names[f-1]); g != f || !is {
			t.Errorf("Find(%q) = %d, %v", names[f-1], g, is)
		}
	}
	for _, f := range none() {
		if libm.Name(f) != "" || libm.Args(f) != 0 {
			t.Errorf("number %d: name %q, %d arguments", f, libm.Name(f), libm.Args(f))
		}
	}
}

// misspelled are names with one sign changed, added, taken away or doubled, in capitals, with what is no UTF-8 or only looks like them.
func misspelled() []string {
	list := []string{"", " ", "\x00", "e", "ex", "pi", "exp3", "exp1", "ln", "sqrt", "atan3", "atan2p", "none", "EXP", "Exp", "exP", "exp\x00", "exp exp2", "exp,", "\xff", "exp\xff", "e\xffp", "\xffxp", "ex\xf0", "éxp", "exр", "ｅｘｐ", "exp\u0301", "\ufffd", "e\ufffdp", "sın", "ſin", "ＳＩＮ", strings.Repeat("exp", 5000), "sin" + strings.Repeat("h", 70000)}
	for _, name := range names {
		list = append(list, strings.ToUpper(name), strings.ToUpper(name[:1])+name[1:], name+name, " "+name, name+"\n")
		for i := range name {
			for _, r := range "aehpsx0129 \x00\x7fé\ufffd" {
				list = append(list, name[:i]+string(r)+name[i+1:], name[:i]+string(r)+name[i:], name+string(r))
			}
			list = append(list, name[:i], name[i+1:], name[:i]+name[i+1:], name[:i]+"\xc3"+name[i+1:], name[:i]+"\xff"+name[i:])
		}
	}
	return list
}

// 27.1: Find of texts that are no name.
func TestFindNone(t *testing.T) {
	for _, text := range misspelled() {
		place := slices.Index(names, text) // some names are another one with a sign more or less
		if f, is := libm.Find(text); is != (place >= 0) || int(f) != place+1 {
			t.Errorf("Find(%.40q) = %d, %v", text, f, is)
		}
	}
}

// 27.2: what is no function, and stages that are none, whatever the arguments: also where a row answers.
func TestRefused(t *testing.T) {
	list := append([]uint64{0, sign, one, word(2.5)}, inf, nan, signalling[0])
	for _, x := range list {
		for _, stage := range []int{math.MinInt, -256, -1, 0, 1, 2, 3, 4, 64, math.MaxInt} {
			for _, f := range none() {
				refused(t, f, x, stage)
			}
			for _, f := range every() {
				if stage < 0 || stage > 2 {
					refused(t, f, x, stage)
				} else if _, why := libm.Call(f, x, x, stage); why != api.OK {
					t.Errorf("Call(%s, %x, %x, %d): error %d", libm.Name(f), x, x, stage, why)
				}
			}
		}
	}
}

func refused(t *testing.T, f api.Func, x uint64, stage int) {
	t.Helper()
	if r, why := libm.Call(f, x, x, stage); r != (api.Result{}) || why != api.ErrRange {
		t.Errorf("Call(%d, %x, %x, %d) = %v, error %d", f, x, x, stage, r, why)
	}
}

// 27.2: what special answers ahead of what ziv answers.
func TestCall(t *testing.T) {
	list := words()
	kinds := map[api.RowKind]int{}
	for _, f := range every() {
		for i, x := range list {
			for j, y := range list {
				if !isTwo(f) && j > 0 || (i+j)%3 > 0 && ziv.Real(f, x, y) {
					continue
				}
				want, kind, _ := special.Special(f, x, y)
				if kind == api.RowNone {
					want, _ = ziv.Round(f, x, y, 0)
				}
				kinds[kind]++
				if r, why := libm.Call(f, x, y, (i+j)%2); r != want || why != api.OK {
					t.Errorf("Call(%s, %x, %x) = %v, error %d; want %v", libm.Name(f), x, y, r, why, want)
				}
			}
		}
	}
	for k := api.RowNone; k < api.RowCount; k++ {
		if kinds[k] < 20 {
			t.Errorf("of kind %d are only %d", k, kinds[k])
		}
	}
}

// 27.2: values that were reckoned elsewhere.
func TestKnown(t *testing.T) {
	seen := map[api.Func]int{}
	for _, c := range known {
		is(t, c)
		seen[c.f]++
	}
	for _, f := range every() {
		if seen[f] < 4 {
			t.Errorf("of %s only %d are known", libm.Name(f), seen[f])
		}
	}
}

// 27.2: rows of all kinds, written out: zeros of either sign, infinities, poles, domains, limits, what is no number.
func TestRows(t *testing.T) {
	half, pi := word(0.5), word(math.Pi)
	for _, c := range []row{
		{api.FuncExp, sign, 0, one, 0}, {api.FuncExp2, inf | sign, 0, 0, 0}, {api.FuncExp10, inf, 0, inf, 0}, {api.FuncExpm1, sign, 0, sign, 0}, {api.FuncExp2m1, inf | sign, 0, one | sign, 0}, {api.FuncExp10m1, 0, 0, 0, 0},
		{api.FuncLog, 0, 0, inf | sign, api.DivByZero}, {api.FuncLog2, sign | 1, 0, nan, api.Invalid}, {api.FuncLog10, one, 0, 0, 0}, {api.FuncLog1p, one | sign, 0, inf | sign, api.DivByZero}, {api.FuncLog2p1, word(-1.5), 0, nan, api.Invalid}, {api.FuncLog10p1, sign, 0, sign, 0}, {api.FuncLog, inf, 0, inf, 0},
		{api.FuncSin, inf, 0, nan, api.Invalid}, {api.FuncCos, 0, 0, one, 0}, {api.FuncTan, sign, 0, sign, 0}, {api.FuncSinpi, word(3), 0, 0, 0}, {api.FuncSinpi, word(-3), 0, sign, 0}, {api.FuncCospi, half, 0, 0, 0}, {api.FuncTanpi, half, 0, inf, api.DivByZero}, {api.FuncTanpi, word(1.5), 0, inf | sign, api.DivByZero}, {api.FuncTanpi, one, 0, sign, 0},
		{api.FuncAsin, one + 1, 0, nan, api.Invalid}, {api.FuncAcos, one, 0, 0, 0}, {api.FuncAtan, inf | sign, 0, word(-math.Pi / 2), api.Inexact}, {api.FuncAsinpi, sign, 0, sign, 0}, {api.FuncAcospi, inf, 0, nan, api.Invalid}, {api.FuncAtanpi, inf, 0, half, 0},
		{api.FuncSinh, inf | sign, 0, inf | sign, 0}, {api.FuncCosh, inf | sign, 0, inf, 0}, {api.FuncTanh, inf, 0, one, 0}, {api.FuncAsinh, sign, 0, sign, 0}, {api.FuncAcosh, one - 1, 0, nan, api.Invalid}, {api.FuncAtanh, one | sign, 0, inf | sign, api.DivByZero},
		{api.FuncCbrt, sign, 0, sign, 0}, {api.FuncCbrt, inf | sign, 0, inf | sign, 0}, {api.FuncRsqrt, sign, 0, inf | sign, api.DivByZero}, {api.FuncRsqrt, one | sign, 0, nan, api.Invalid}, {api.FuncRsqrt, inf, 0, 0, 0},
		{api.FuncAtan2, 0, sign, pi, api.Inexact}, {api.FuncAtan2, sign, 0, sign, 0}, {api.FuncAtan2, one, inf, 0, 0}, {api.FuncAtan2, one, inf | sign, pi, api.Inexact}, {api.FuncAtan2pi, 0, sign, one, 0}, {api.FuncAtan2pi, inf | sign, inf, word(-0.25), 0},
		{api.FuncPow, sign, word(-3), inf | sign, api.DivByZero}, {api.FuncPow, 0, word(-2), inf, api.DivByZero}, {api.FuncPow, sign, inf | sign, inf, 0}, {api.FuncPow, one | sign, inf, one, 0}, {api.FuncPow, word(-8), half, nan, api.Invalid}, {api.FuncPow, one, nan, one, 0}, {api.FuncPow, one, signalling[1], nan, api.Invalid}, {api.FuncPow, nan, sign, one, 0}, {api.FuncPow, nan, one, nan, 0},
		{api.FuncHypot, nan | sign, inf | sign, inf, 0}, {api.FuncHypot, signalling[0], inf, nan, api.Invalid}, {api.FuncHypot, sign, word(-3), word(3), 0}, {api.FuncHypot, nan, one, nan, 0},
	} {
		is(t, c)
	}
}

// 27.2: what is reckoned though it is exact, too great, too small, next to a row.
func TestReckoned(t *testing.T) {
	for _, c := range []row{
		{api.FuncExp, word(709.782712893385), 0, inf, over}, {api.FuncExp, word(-746), 0, 0, under}, {api.FuncExp, 1, 0, one, api.Inexact}, {api.FuncExp2, word(1024), 0, inf, over}, {api.FuncExp2, word(-1074), 0, 1, 0}, {api.FuncExp2, word(3), 0, word(8), 0}, {api.FuncExp10, word(22), 0, word(1e22), 0},
		{api.FuncExpm1, 1, 0, 1, under}, {api.FuncExpm1, most | sign, 0, one | sign, api.Inexact}, {api.FuncLog2, 1, 0, word(-1074), 0}, {api.FuncLog1p, sign | 1, 0, sign | 1, under},
		{api.FuncSin, sign | 1, 0, sign | 1, under}, {api.FuncTanpi, word(0.25), 0, one, 0}, {api.FuncTanpi, word(-0.25), 0, one | sign, 0}, {api.FuncSinh, word(-711), 0, inf | sign, over}, {api.FuncCosh, word(-711), 0, inf, over}, {api.FuncTanh, most | sign, 0, one | sign, api.Inexact},
		{api.FuncCbrt, word(-27), 0, word(-3), 0}, {api.FuncRsqrt, word(4), 0, word(0.5), 0}, {api.FuncAtan2, sign | 1, most, sign, under}, {api.FuncAtan2pi, one, one | sign, word(0.75), 0},
		{api.FuncPow, word(-2), word(1025), inf | sign, over}, {api.FuncPow, word(-2), word(-1077), sign, under}, {api.FuncPow, word(-2), word(3), word(-8), 0}, {api.FuncPow, word(2), word(-1076), 0, under}, {api.FuncPow, word(3), word(4), word(81), 0},
		{api.FuncHypot, word(3), word(-4), word(5), 0}, {api.FuncHypot, most, most, inf, over}, {api.FuncHypot, sign | 3, 4, 5, 0},
	} {
		is(t, c)
	}
}

// The chapter's examples, and those of the whole.
func TestExamples(t *testing.T) {
	is(t, row{api.FuncExp, one, 0, 0x4005bf0a8b145769, api.Inexact})
	is(t, row{api.FuncLog, sign, 0, 0xfff0000000000000, api.DivByZero})
	is(t, row{api.FuncLog, 0xbff0000000000000, 0, nan, api.Invalid})
	is(t, row{api.FuncPow, nan, 0, one, 0})
	is(t, row{api.FuncSinpi, word(-2), 0, sign, 0})
	is(t, row{api.FuncTanpi, word(0.5), 0, inf, api.DivByZero})
	if f, found := libm.Find("atan2pi"); f != api.FuncAtan2pi || !found || libm.Args(api.FuncHypot) != 2 {
		t.Error("Find, Args:", f, found, libm.Args(api.FuncHypot))
	}
}

// 27.3: Math of all bits.
func TestMath(t *testing.T) {
	for n := range 256 {
		f := api.Flags(n)
		want := api.MathNone
		if f&(api.DivByZero|api.Overflow|api.Underflow) != 0 {
			want = api.MathRange
		}
		if f&api.Invalid != 0 {
			want = api.MathDomain
		}
		for _, x := range []uint64{0, one, inf, nan} {
			if got := libm.Math(api.Result{Bits: x, Flags: f}); got != want || got != flags.Math(f) {
				t.Errorf("Math(%x, %d) = %d, want %d", x, f, got, want)
			}
		}
	}
}

// 27.3: All of what is no function, of too many numbers, of both.
func TestAllRefused(t *testing.T) {
	many := make([]uint64, api.MaxLines+1)
	for _, f := range none() {
		for _, list := range [][]uint64{nil, {}, {one}, many} {
			if l, why := libm.All(f, list, one); len(l) != 0 || why != api.ErrRange {
				t.Errorf("All(%d, %d numbers) = %v, error %d", f, len(list), l, why)
			}
		}
	}
	for _, f := range every() {
		for _, n := range []int{1, 2, api.MaxLines} {
			if l, why := libm.All(f, make([]uint64, api.MaxLines+n), one); len(l) != 0 || why != api.ErrMany {
				t.Errorf("All(%s, %d numbers): %d results, error %d", libm.Name(f), api.MaxLines+n, len(l), why)
			}
		}
	}
}

// 27.3: All of no number, of one, of as many as there may be.
func TestAllOfMany(t *testing.T) {
	for _, f := range every() {
		for _, list := range [][]uint64{nil, {}} {
			if l, why := libm.All(f, list, one); len(l) != 0 || why != api.OK {
				t.Errorf("All(%s) of none = %v, error %d", libm.Name(f), l, why)
			}
		}
		r, _ := libm.Call(f, word(0.7), word(2.5), 0)
		if l, why := libm.All(f, []uint64{word(0.7)}, word(2.5)); !slices.Equal(l, []api.Result{r}) || why != api.OK {
			t.Errorf("All(%s) of one = %v, error %d; want %v", libm.Name(f), l, why, r)
		}
	}
	many := make([]uint64, api.MaxLines)
	for i := range many {
		many[i] = word(float64(i) - 2000)
	}
	l, why := libm.All(api.FuncExp2, many, nan)
	if why != api.OK || len(l) != len(many) {
		t.Fatalf("All of %d numbers: %d results, error %d", len(many), len(l), why)
	}
	for i, r := range l {
		if x := math.Ldexp(1, i-2000); r.Bits != word(x) || (r.Flags == 0) != (x > 0 && !math.IsInf(x, 0)) {
			t.Errorf("All(exp2): at %d %x, flags %d", i-2000, r.Bits, r.Flags)
		}
	}
}

// 27.4: what is handed in stays, also behind its end; answers have memory of their own.
func TestNewMemory(t *testing.T) {
	room := append(words(), 1, 2, 3)
	given := room[:len(room)-3]
	before := slices.Clone(room)
	for _, f := range every() {
		first, _ := libm.All(f, given, word(1.5))
		kept := slices.Clone(first)
		second, _ := libm.All(f, given, word(1.5))
		for i := range second[:cap(second)] {
			second[:cap(second)][i] = api.Result{Bits: 77, Flags: 31}
		}
		if !slices.Equal(room, before) || !slices.Equal(first, kept) || len(first) != len(given) {
			t.Fatalf("All(%s): memory is shared", libm.Name(f))
		}
		given[0] ^= sign
		if !slices.Equal(first, kept) {
			t.Errorf("All(%s): the list is kept", libm.Name(f))
		}
		given[0] = before[0]
	}
}

// No call panics or goes on for ever, whatever it is given.
func TestAnything(t *testing.T) {
	s := probe.Source(127)
	for range 4000 {
		f, stage := api.Func(s.Word()), s.Below(5)-1
		if s.Below(4) > 0 {
			f = api.Func(s.Below(38))
		}
		x, y := s.Word(), s.Word()
		r, why := libm.Call(f, x, y, stage)
		isRight := libm.Args(f) > 0 && stage >= 0 && stage <= 2
		if (why == api.OK) != isRight || !isRight && (why != api.ErrRange || r != api.Result{}) {
			t.Errorf("Call(%d, %x, %x, %d) = %v, error %d", f, x, y, stage, r, why)
		}
		if again, whyToo := libm.Call(f, x, y, stage); again != r || whyToo != why {
			t.Errorf("Call(%d, %x, %x, %d) answers %v, then %v", f, x, y, stage, r, again)
		}
		libm.Math(api.Result{Bits: x, Flags: api.Flags(y)})
		if bits.Abs(r.Bits) > inf && r.Bits != nan {
			t.Errorf("Call(%d, %x, %x, %d) = %x", f, x, y, stage, r.Bits)
		}
	}
}
