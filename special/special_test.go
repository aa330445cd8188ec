package special_test

import (
	"math"
	"slices"
	"strings"
	"testing"

	"ulp/api"
	"ulp/bits"
	"ulp/probe"
	"ulp/special"
)

const (
	nan   uint64 = 0x7ff8000000000000
	sign  uint64 = 1 << 63
	inf   uint64 = 0x7ff0000000000000
	one   uint64 = 0x3ff0000000000000
	least        = math.SmallestNonzeroFloat64
	most         = math.MaxFloat64
)

var (
	minusZero = math.Copysign(0, -1)
	infinity  = math.Inf(1)
)

// names stand by the functions' numbers, from FuncExp on.
var names = strings.Fields("exp exp2 exp10 expm1 exp2m1 exp10m1 log log2 log10 log1p log2p1 log10p1 sin cos tan sinpi cospi tanpi asin acos atan asinpi acospi atanpi sinh cosh tanh asinh acosh atanh cbrt rsqrt atan2 atan2pi pow hypot")

var (
	quiet      = []uint64{nan, nan | sign, 0x7fffffffffffffff, math.MaxUint64, 0x7ff8000000000001, 0xfffc000000000000}
	signalling = []uint64{0x7ff0000000000001, 0xfff0000000000001, 0x7ff4000000000000, 0xfff7ffffffffffff}
	twos       = []api.Func{api.FuncAtan2, api.FuncAtan2pi, api.FuncPow, api.FuncHypot}
)

func word(x float64) uint64 { return math.Float64bits(x) }

func up(x float64) float64 { return math.Nextafter(x, infinity) }

func down(x float64) float64 { return math.Nextafter(x, -infinity) }

// every are the functions.
func every() []api.Func {
	var list []api.Func
	for f := api.FuncExp; f <= api.FuncHypot; f++ {
		list = append(list, f)
	}
	return list
}

// numbers are those at which rows hold, with their neighbours, of either sign: zeros, infinities, 1, whole numbers and halves, odd and even, small and great ones.
func numbers() []float64 {
	list := []float64{0, minusZero, infinity, -infinity, most, -most}
	for _, x := range []float64{least, 0x1p-1022, 0.25, 0.5, 0.75, 1, 1.25, 1.5, 2, 2.5, 3, 3.5, 4, 10, 1e6 + 0.5, 1<<51 - 0.5, 1<<51 - 1, 1<<51 + 0.5, 1<<52 - 1.5, 1<<52 - 0.5, 1<<52 - 1, 1 << 52, 1<<52 + 1, 1<<53 - 2, 1<<53 - 1, 1 << 53, 1<<53 + 2, 1<<53 + 4, 0x1p54, 0x1p63, 0x1p64, 1e300} {
		list = append(list, x, -x, up(x), down(x), -up(x), -down(x))
	}
	return list
}

// expect holds an answer against what it should be.
func expect(t *testing.T, f api.Func, x, y uint64, want api.Result, kind api.RowKind) {
	t.Helper()
	if r, k, why := special.Special(f, x, y); r != want || k != kind || why != api.OK {
		t.Errorf("Special(%s, %x, %x) = %x, flags %d, kind %d, error %d; want %x, flags %d, kind %d", special.Name(f), x, y, r.Bits, r.Flags, k, why, want.Bits, want.Flags, kind)
	}
}

// P24.1
func TestNames(t *testing.T) {
	if len(names) != int(api.FuncCount)-1 {
		t.Fatal("names:", len(names))
	}
	for n := range 256 {
		f := api.Func(n)
		name, args := "", 0
		if n >= 1 && n <= len(names) {
			name, args = names[n-1], 1
		}
		if slices.Contains(twos, f) {
			args = 2
		}
		if got := special.Name(f); got != name {
			t.Errorf("Name(%d) = %q", f, got)
		}
		if got := special.Args(f); got != args {
			t.Errorf("Args(%d) = %d", f, got)
		}
	}
}

// P24.1
func TestFind(t *testing.T) {
	for i, name := range names {
		if f, ok := special.Find(name); !ok || int(f) != i+1 {
			t.Errorf("Find(%q) = %d, %v", name, f, ok)
		}
	}
	list := []string{"", " ", "e", "ex", "pi", "exp3", "exp1", "ln", "lg", "sqrt", "atan3", "atan2p", "none", "EXP", "Exp", "exP", "exp\x00", "\x00exp", "exp\n", "exp exp2", "expexp", "\xff", "exp\xff", "e\xffp", "\xffxp", "éxp", "exé", "exр", "ｅｘｐ", "exp\u0301", "\ufffd", "sın", "ſin", strings.Repeat("exp", 5000), "sin" + strings.Repeat("h", 70000)}
	for _, name := range names {
		list = append(list, " "+name, name+" ", name+"\x00", name+name, strings.ToUpper(name), name+"pi", name+"1", name+"é")
		for i := range name {
			for _, r := range "aehpsx01\x00\x7f \xff" {
				list = append(list, name[:i]+string(r)+name[i+1:], name[:i]+string(r)+name[i:])
			}
			list = append(list, name[:i], name[i+1:], name[:i]+name[i+1:], name[:i]+"\xc3"+name[i+1:])
		}
	}
	for _, text := range list {
		place := slices.Index(names, text)
		if f, ok := special.Find(text); ok != (place >= 0) || int(f) != place+1 {
			t.Errorf("Find(%.40q) = %d, %v", text, f, ok)
		}
	}
}

// P24.3
func TestNamesThereAndBack(t *testing.T) {
	for _, f := range every() {
		if g, ok := special.Find(special.Name(f)); !ok || g != f {
			t.Errorf("Find(Name(%d)) = %d, %v", f, g, ok)
		}
	}
}

// P24.2: each line of each function, with what lies beside it.
func TestRows(t *testing.T) {
	list := numbers()
	for _, f := range every() {
		for _, x := range list {
			if !slices.Contains(twos, f) {
				want := wanted(f, x, 0)
				expect(t, f, word(x), 0, want.result(), want.kind)
				continue
			}
			for _, y := range list {
				want := wanted(f, x, y)
				expect(t, f, word(x), word(y), want.result(), want.kind)
			}
		}
	}
}

// P24.2: lines written out one by one.
func TestLines(t *testing.T) {
	for _, c := range []struct {
		f    api.Func
		x, y float64
		want outcome
	}{
		{api.FuncExp, minusZero, 0, told(1)}, {api.FuncExp10, -infinity, 0, told(0)}, {api.FuncExp2m1, -infinity, 0, told(-1)}, {api.FuncExpm1, minusZero, 0, told(minusZero)},
		{api.FuncLog10, minusZero, 0, pole(-infinity)}, {api.FuncLog2, -least, 0, outside}, {api.FuncLog2, 1, 0, told(0)}, {api.FuncLog1p, -1, 0, pole(-infinity)}, {api.FuncLog10p1, down(-1), 0, outside}, {api.FuncLog2p1, up(-1), 0, none},
		{api.FuncSinpi, 3, 0, told(0)}, {api.FuncSinpi, -3, 0, told(minusZero)}, {api.FuncSinpi, 0.5, 0, none}, {api.FuncSinpi, -most, 0, told(minusZero)},
		{api.FuncCospi, 0.5, 0, told(0)}, {api.FuncCospi, -1.5, 0, told(0)}, {api.FuncCospi, 0, 0, none}, {api.FuncCospi, 1, 0, none}, {api.FuncCospi, 1<<52 - 0.5, 0, told(0)}, {api.FuncCospi, 1 << 52, 0, none},
		{api.FuncTanpi, 2, 0, told(0)}, {api.FuncTanpi, 3, 0, told(minusZero)}, {api.FuncTanpi, -2, 0, told(minusZero)}, {api.FuncTanpi, -3, 0, told(0)}, {api.FuncTanpi, minusZero, 0, told(minusZero)}, {api.FuncTanpi, 1<<53 - 1, 0, told(minusZero)}, {api.FuncTanpi, 1<<53 + 2, 0, told(0)},
		{api.FuncTanpi, 1.5, 0, pole(-infinity)}, {api.FuncTanpi, 2.5, 0, pole(infinity)}, {api.FuncTanpi, -1.5, 0, pole(infinity)}, {api.FuncTanpi, -2.5, 0, pole(-infinity)}, {api.FuncTanpi, 1<<52 - 0.5, 0, pole(-infinity)}, {api.FuncTanpi, 1<<52 - 1.5, 0, pole(infinity)}, {api.FuncTanpi, 0.25, 0, none},
		{api.FuncAsinpi, 1, 0, none}, {api.FuncAsin, up(1), 0, outside}, {api.FuncAcos, 1, 0, told(0)}, {api.FuncAcospi, -1, 0, none}, {api.FuncAcos, 0, 0, none}, {api.FuncAtanpi, -infinity, 0, told(-0.5)},
		{api.FuncTanh, -infinity, 0, told(-1)}, {api.FuncCosh, -infinity, 0, told(infinity)}, {api.FuncAcosh, down(1), 0, outside}, {api.FuncAtanh, -1, 0, pole(-infinity)}, {api.FuncAtanh, down(1), 0, none}, {api.FuncRsqrt, minusZero, 0, pole(-infinity)}, {api.FuncCbrt, -infinity, 0, told(-infinity)},
		{api.FuncAtan2, 0, minusZero, limit(math.Pi)}, {api.FuncAtan2, minusZero, 0, told(minusZero)}, {api.FuncAtan2, minusZero, -infinity, limit(-math.Pi)}, {api.FuncAtan2, -1, minusZero, limit(-math.Pi / 2)}, {api.FuncAtan2, 1, infinity, told(0)}, {api.FuncAtan2, -1, infinity, told(minusZero)}, {api.FuncAtan2, -1, -infinity, limit(-math.Pi)}, {api.FuncAtan2, infinity, 0, limit(math.Pi / 2)}, {api.FuncAtan2, 1, 1, none},
		{api.FuncAtan2pi, 0, -1, told(1)}, {api.FuncAtan2pi, -1, 0, told(-0.5)}, {api.FuncAtan2pi, -infinity, infinity, told(-0.25)}, {api.FuncAtan2pi, -infinity, -infinity, told(-0.75)}, {api.FuncAtan2pi, 1, -infinity, told(1)}, {api.FuncAtan2pi, 1, -1, none},
		{api.FuncPow, minusZero, -infinity, told(infinity)}, {api.FuncPow, minusZero, -3, pole(-infinity)}, {api.FuncPow, minusZero, -2, pole(infinity)}, {api.FuncPow, minusZero, -0.5, pole(infinity)}, {api.FuncPow, minusZero, 3, told(minusZero)}, {api.FuncPow, minusZero, 0x1p53, told(0)}, {api.FuncPow, minusZero, infinity, told(0)},
		{api.FuncPow, -1, infinity, told(1)}, {api.FuncPow, -1, -infinity, told(1)}, {api.FuncPow, up(1), infinity, told(infinity)}, {api.FuncPow, down(1), infinity, told(0)}, {api.FuncPow, -0.5, -infinity, told(infinity)}, {api.FuncPow, -infinity, -infinity, told(0)},
		{api.FuncPow, infinity, -least, told(0)}, {api.FuncPow, infinity, least, told(infinity)}, {api.FuncPow, -infinity, -3, told(minusZero)}, {api.FuncPow, -infinity, -2.5, told(0)}, {api.FuncPow, -infinity, 3, told(-infinity)}, {api.FuncPow, -infinity, 0.5, told(infinity)},
		{api.FuncPow, -8, 1.0 / 3, outside}, {api.FuncPow, -8, 3, none}, {api.FuncPow, -1, 0.5, outside}, {api.FuncPow, -2, minusZero, told(1)}, {api.FuncPow, 2, 0.5, none},
		{api.FuncHypot, minusZero, -3, told(3)}, {api.FuncHypot, -3, 0, told(3)}, {api.FuncHypot, minusZero, minusZero, told(0)}, {api.FuncHypot, -infinity, 0, told(infinity)}, {api.FuncHypot, 3, 4, none},
	} {
		expect(t, c.f, word(c.x), word(c.y), c.want.result(), c.want.kind)
	}
}

// P24.2: numbers without a pattern.
func TestRowsAnywhere(t *testing.T) {
	s := probe.Source(24)
	for range 3000 {
		x, y := s.Float(s.Below(2046)-1022), s.Float(s.Below(70)-10)
		for _, f := range every() {
			want := wanted(f, x, y)
			expect(t, f, word(x), word(y), want.result(), want.kind)
			want = wanted(f, y, x)
			expect(t, f, word(y), word(x), want.result(), want.kind)
		}
	}
}

// P24.2: of a function of one argument y is no matter.
func TestOneArgument(t *testing.T) {
	others := slices.Concat([]uint64{0, sign, one, inf, inf | sign, word(0.5)}, quiet, signalling)
	for _, f := range every() {
		if slices.Contains(twos, f) {
			continue
		}
		for _, x := range append(numbers(), math.NaN(), 0.3) {
			r, k, why := special.Special(f, word(x), 0)
			inside := special.Inside(f, word(x), 0)
			for _, y := range others {
				if r2, k2, why2 := special.Special(f, word(x), y); r2 != r || k2 != k || why2 != why || special.Inside(f, word(x), y) != inside {
					t.Errorf("%s of %g hangs on y: %x", special.Name(f), x, y)
				}
			}
		}
	}
}

// P24.2: arguments that are no numbers, in each place: signalling ones ahead of all; quiet ones behind the first rows of pow and hypot.
func TestNoNumbers(t *testing.T) {
	invalid, silent := api.Result{Bits: nan, Flags: api.Invalid}, api.Result{Bits: nan}
	with := append(slices.Clone(quiet), 0, sign, one, one|sign, one+1, inf, inf|sign, word(0.5), word(3), word(-2), word(most))
	for _, f := range every() {
		for _, x := range signalling {
			expect(t, f, x, 0, invalid, api.RowNaN)
			for _, y := range append(with, signalling...) {
				expect(t, f, x, y, invalid, api.RowNaN)
				if slices.Contains(twos, f) {
					expect(t, f, y, x, invalid, api.RowNaN)
				}
			}
		}
		for _, x := range quiet {
			for _, y := range with {
				switch {
				case f == api.FuncPow && bits.Abs(y) == 0:
					expect(t, f, x, y, told(1).result(), api.RowExact)
				case f == api.FuncHypot && bits.Abs(y) == inf:
					expect(t, f, x, y, told(infinity).result(), api.RowExact)
				default:
					expect(t, f, x, y, silent, api.RowNaN)
				}
				switch {
				case !slices.Contains(twos, f):
				case f == api.FuncPow && y == one:
					expect(t, f, y, x, told(1).result(), api.RowExact)
				case f == api.FuncHypot && bits.Abs(y) == inf:
					expect(t, f, y, x, told(infinity).result(), api.RowExact)
				default:
					expect(t, f, y, x, silent, api.RowNaN)
				}
			}
		}
	}
}

// P24.2: what is no function.
func TestNoFunction(t *testing.T) {
	list := slices.Concat([]uint64{0, sign, one, inf, word(0.5)}, quiet, signalling)
	for n := range 256 {
		f := api.Func(n)
		if n >= 1 && n <= len(names) {
			continue
		}
		for _, x := range list {
			for _, y := range list {
				if r, k, why := special.Special(f, x, y); r != (api.Result{}) || k != api.RowNone || why != api.ErrRange {
					t.Errorf("Special(%d, %x, %x) = %v, kind %d, error %d", f, x, y, r, k, why)
				}
				if special.Inside(f, x, y) {
					t.Errorf("Inside(%d, %x, %x)", f, x, y)
				}
			}
		}
	}
}

// checkInside holds Inside against the rows.
func checkInside(t *testing.T, f api.Func, x, y float64) {
	t.Helper()
	finite := !isInf(x) && !math.IsNaN(x)
	if slices.Contains(twos, f) {
		finite = finite && !isInf(y) && !math.IsNaN(y)
	}
	want := false
	if finite {
		kind := wanted(f, x, y).kind
		want = kind != api.RowDomain && kind != api.RowPole
	}
	if special.Inside(f, word(x), word(y)) != want {
		t.Errorf("Inside(%s, %g, %g) = %v", special.Name(f), x, y, !want)
	}
}

// P24.2
func TestInside(t *testing.T) {
	list := append(numbers(), 0.3, -0.3, math.NaN(), math.Float64frombits(nan|sign), math.Float64frombits(signalling[0]), math.Float64frombits(signalling[1]))
	for _, f := range every() {
		for _, x := range list {
			for _, y := range list {
				checkInside(t, f, x, y)
			}
		}
	}
	for _, c := range []struct { // each kind of row
		f    api.Func
		x, y float64
		want bool
	}{
		{api.FuncLog, 0, 0, false}, {api.FuncLog, -1, 0, false}, {api.FuncLog, 1, 0, true}, {api.FuncLog, 2, 0, true}, {api.FuncLog, infinity, 0, false}, {api.FuncLog, math.NaN(), 0, false},
		{api.FuncExp, 0, math.NaN(), true}, {api.FuncExp, -infinity, 0, false}, {api.FuncTanpi, 0.5, 0, false}, {api.FuncTanpi, 1, 0, true}, {api.FuncAtan, infinity, 0, false},
		{api.FuncAtan2, 0, -1, true}, {api.FuncAtan2, 0, minusZero, true}, {api.FuncAtan2, 1, infinity, false}, {api.FuncPow, 0, -1, false}, {api.FuncPow, -2, 0.5, false}, {api.FuncPow, 1, infinity, false}, {api.FuncPow, math.NaN(), 0, false}, {api.FuncPow, 0, 0, true}, {api.FuncHypot, 0, 3, true}, {api.FuncHypot, infinity, 3, false}, {api.FuncRsqrt, minusZero, 0, false},
	} {
		if got := special.Inside(c.f, word(c.x), word(c.y)); got != c.want {
			t.Errorf("Inside(%s, %g, %g) = %v", special.Name(c.f), c.x, c.y, got)
		}
	}
}

// The chapter's examples.
func TestExamples(t *testing.T) {
	for _, y := range append(slices.Concat(quiet, signalling), 0, 7) {
		expect(t, api.FuncLog, 0, y, api.Result{Bits: inf | sign, Flags: api.DivByZero}, api.RowPole)
		expect(t, api.FuncSinpi, 0xc000000000000000, y, api.Result{Bits: sign}, api.RowExact)
		expect(t, api.FuncExp, one, y, api.Result{}, api.RowNone)
	}
	for _, y := range quiet {
		expect(t, api.FuncPow, one, y, api.Result{Bits: one}, api.RowExact)
		expect(t, api.FuncHypot, inf, y, api.Result{Bits: inf}, api.RowExact)
	}
	for _, y := range signalling {
		expect(t, api.FuncPow, one, y, api.Result{Bits: nan, Flags: api.Invalid}, api.RowNaN)
		expect(t, api.FuncHypot, inf, y, api.Result{Bits: nan, Flags: api.Invalid}, api.RowNaN)
	}
}
