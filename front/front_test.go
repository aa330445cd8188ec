package front_test

import (
	"fmt"
	"strings"
	"testing"

	"ulp/api"
	"ulp/bits"
	"ulp/consts"
	"ulp/flags"
	"ulp/front"
	"ulp/libm"
	"ulp/special"
	"ulp/tables"
	"ulp/text"
	"ulp/ziv"
)

// functions stand in the order of their numbers; the last four have two arguments.
var functions = strings.Fields("exp exp2 exp10 expm1 exp2m1 exp10m1 log log2 log10 log1p log2p1 log10p1 sin cos tan sinpi cospi tanpi asin acos atan asinpi acospi atanpi sinh cosh tanh asinh acosh atanh cbrt rsqrt atan2 atan2pi pow hypot")

// answer is all that Run answers.
type answer struct {
	out, said string
	code      int
}

func run(args []string, files ...string) answer {
	out, said, code := front.Run(args, files)
	return answer{out, said, code}
}

func put(out string) answer    { return answer{out: out} }
func usage(what string) answer { return answer{said: "usage " + what + "\n", code: 64} }
func failed(why any) answer    { return answer{said: fmt.Sprintf("error %d\n", why), code: 1} }
func failedAt(why, at any) answer {
	return answer{said: fmt.Sprintf("error %d %d\n", why, at), code: 1}
}
func shown(r api.Result) string {
	return fmt.Sprintf("%s %016x %s\n", text.Shortest(r.Bits), r.Bits, flags.Show(r.Flags))
}
func putOr(why api.Errno, out string) answer {
	if why != api.OK {
		return failed(why)
	}
	return put(out)
}

// is: the command, its words with blanks between, is answered so.
func is(t *testing.T, words string, want answer) {
	t.Helper()
	isOf(t, strings.Split(words, " "), want)
}

func isOf(t *testing.T, args []string, want answer, files ...string) {
	t.Helper()
	if got := run(args, files...); got != want {
		t.Errorf("%.90q with %d files: %.200q, %.90q, %d; want %.200q, %.90q, %d", args, len(files), got.out, got.said, got.code, want.out, want.said, want.code)
	}
}

// numberTexts are numbers in all their texts.
var numberTexts = []string{"0", "-0", "+0", "1", "-1", "+1", "01", "1.", ".5", "0.5", "-.5", "1e0", "1E-3", "2.5e+2", "0x1p0", "0X1.8P+1", "-0x.8p-2", "inf", "-inf", "Infinity", "+INF", "nan", "NaN", "-nan", "1e400", "-1e400", "1e-400", "5e-324", "0.1", "709.782712893385", "1.7976931348623157e308", "2.2250738585072014e-308", "1" + strings.Repeat("0", 300), "1000000000000000000000000000001", strings.Repeat("0", api.MaxText-1) + "7"}

// noNumbers are texts of none.
var noNumbers = []string{"", " ", "x", "1 ", " 1", "1x", "1e", ".", "0x1", "--1", "infin", "1_0", "1,5", "\xff", "1\n", "１", "∞", strings.Repeat("0", api.MaxText+1), strings.Repeat("1", 100000)}

// noCounts are no counts.
var noCounts = []string{"", " ", "+1", "-1", "-0", "+0", "00", "01", "08", "000000001", "0000000000", "1000000000", "9999999999", "12345678901234567890", "99999999999999999999999", "4294967304", "1.", "1.0", "1e1", "0x8", "1_0", " 8", "8 ", "8\n", "a", "eight", "８", "٣", "\xff", "8\xff", "\x00", strings.Repeat("9", 100000)}

// P30.1: names
func TestNames(t *testing.T) {
	var want strings.Builder
	for i, name := range functions {
		fmt.Fprintf(&want, "%s %d\n", name, 1+i/32)
	}
	is(t, "names", put(want.String()))
}

// P30.1: call of each function at numbers in all their texts.
func TestCall(t *testing.T) {
	for i, name := range functions {
		f := api.Func(i + 1)
		for j, s := range numberTexts {
			x, _ := text.Parse(s)
			if special.Args(f) == 1 {
				r, why := libm.Call(f, x.Bits, 0, 0)
				isOf(t, []string{"call", name, s}, putOr(why, shown(r)))
				continue
			}
			for k := range 4 {
				other := numberTexts[(j*5+k*7)%len(numberTexts)]
				y, _ := text.Parse(other)
				r, why := libm.Call(f, x.Bits, y.Bits, 0)
				isOf(t, []string{"call", name, s, other}, putOr(why, shown(r)))
			}
		}
	}
}

// P30.1: calls whose results are written out here.
func TestCallWords(t *testing.T) {
	for words, want := range map[string]string{
		"call exp 1":                      "2.718281828459045e0 4005bf0a8b145769 inexact",
		"call pow 2 10":                   "1.024e3 4090000000000000 none",
		"call pow 10 2":                   "1e2 4059000000000000 none",
		"call atan2 -0 -1":                "-3.141592653589793e0 c00921fb54442d18 inexact",
		"call atan2 -1 -0":                "-1.5707963267948966e0 bff921fb54442d18 inexact",
		"call hypot 3 4":                  "5e0 4014000000000000 none",
		"call log 0":                      "-inf fff0000000000000 divbyzero",
		"call log -1":                     "nan 7ff8000000000000 invalid",
		"call log nan":                    "nan 7ff8000000000000 none",
		"call sinpi -2":                   "-0 8000000000000000 none",
		"call exp 1000":                   "inf 7ff0000000000000 overflow inexact",
		"call exp -1000":                  "0 0000000000000000 underflow inexact",
		"call exp2 -1074":                 "5e-324 0000000000000001 none",
		"call exp 0x1p0":                  "2.718281828459045e0 4005bf0a8b145769 inexact",
		"call exp 100e-2":                 "2.718281828459045e0 4005bf0a8b145769 inexact",
		"call cbrt -27":                   "-3e0 c008000000000000 none",
		"call rsqrt +4":                   "5e-1 3fe0000000000000 none",
		"call tanpi .25":                  "1e0 3ff0000000000000 none",
		"call exp inf":                    "inf 7ff0000000000000 none",
		"call pow -2 -1077":               "-0 8000000000000000 underflow inexact",
		"call sin 1.7976931348623157e308": "4.961954789184062e-3 3f7452fc98b34e97 inexact",
	} {
		is(t, words, put(want+"\n"))
	}
}

// P30.1: enclose, with the errors of what it calls.
func TestEnclose(t *testing.T) {
	counts := []int{0, 7, 8, 9, 64, 300, api.MaxBits, api.MaxBits + 1, 999999999}
	seen := map[api.Errno]int{}
	for i, name := range functions {
		f := api.Func(i + 1)
		for j, s := range numberTexts {
			p, other := counts[(i+j)%len(counts)], numberTexts[(i+j*3)%len(numberTexts)]
			args := []string{"enclose", name, fmt.Sprint(p), s}
			x, _ := text.Parse(s)
			var y api.Result
			if special.Args(f) == 2 {
				args = append(args, other)
				y, _ = text.Parse(other)
			}
			v, why := ziv.Enclose(f, x.Bits, y.Bits, p)
			out, _ := tables.Print([]api.Dyad{v.Lo, v.Hi})
			isOf(t, args, putOr(why, out))
			seen[why]++
		}
	}
	for _, why := range []api.Errno{api.OK, api.ErrRange, api.ErrWhole, api.ErrMany} {
		if seen[why] < 5 {
			t.Errorf("error %d was seen %d times", why, seen[why])
		}
	}
	is(t, "enclose atan2pi 8 0 1", put("0x0p0\n0x0p0\n"))
	is(t, "enclose exp 7 1", failed(api.ErrRange))
	is(t, "enclose exp 2049 1", failed(api.ErrRange))
	is(t, "enclose cbrt 64 8", failed(api.ErrRange))
	is(t, "enclose hypot 64 3 4", failed(api.ErrRange))
	is(t, "enclose log 64 0", failed(api.ErrWhole))
	is(t, "enclose exp 64 inf", failed(api.ErrWhole))
	is(t, "enclose exp 64 1e300", failed(api.ErrMany))
	is(t, "enclose log 0 0", failed(api.ErrRange)) // of two errors the one that is named first
}

// P30.1: read takes any text; its errors are text's.
func TestRead(t *testing.T) {
	for _, s := range numberTexts {
		r, why := text.Parse(s)
		isOf(t, []string{"read", s}, putOr(why, shown(r)))
	}
	for _, s := range noNumbers {
		want := api.ErrText
		if len(s) > api.MaxText {
			want = api.ErrLong
		}
		isOf(t, []string{"read", s}, failed(want))
	}
	for s, want := range map[string]string{
		"0.1": "1e-1 3fb999999999999a inexact", "1e400": "inf 7ff0000000000000 overflow inexact", "2e-324": "0 0000000000000000 underflow inexact", "-0": "-0 8000000000000000 none", "-nan": "nan 7ff8000000000000 none", "0x1.8p1": "3e0 4008000000000000 none",
	} {
		isOf(t, []string{"read", s}, put(want+"\n"))
	}
	is(t, "read call", failed(280))
}

// words are bits of all classes.
var words = []uint64{0, 1 << 63, 1, 1<<63 | 1, 0x000fffffffffffff, 0x0010000000000000, 0x3ff0000000000000, 0xbff8000000000000, 0x3fb999999999999a, 0x3fc0000000000000, 0x4340000000000000, 0x7fefffffffffffff, 0xffefffffffffffff, 0x7ff0000000000000, 0xfff0000000000000, 0x7ff0000000000001, 0x7ff8000000000000, 0xffffffffffffffff, 0x0123456789abcdef, 0xfedcba9876543210}

// P30.1: show
func TestShow(t *testing.T) {
	for _, x := range words {
		want := text.Shortest(x) + " " + text.Hex(x) + " " + text.Exact(x) + "\n"
		isOf(t, []string{"show", fmt.Sprintf("%016x", x)}, put(want))
	}
	is(t, "show 3fc0000000000000", put("1.25e-1 0x1p-3 0.125\n"))
	is(t, "show 8000000000000000", put("-0 -0x0p0 -0\n"))
	is(t, "show fff0000000000001", put("nan nan nan\n"))
	is(t, "show fff0000000000000", put("-inf -inf -inf\n"))
	if got := run([]string{"show", "0000000000000001"}); !strings.HasPrefix(got.out, "5e-324 0x1p-1074 0.000") || !strings.HasSuffix(got.out, "5\n") {
		t.Errorf("the least number: %.90q", got.out)
	}
	for _, s := range []string{"", "0", "3fc000000000000", "3fc00000000000000", "03fc0000000000000", "3FC0000000000000", "3Fc0000000000000", "0x3fc00000000000", "+fc0000000000000", "-fc0000000000000", "3fc000000000000g", "3fc000000000000 ", " 3fc000000000000", "3fc0_00000000000", "0.125", "nan", "3fc000000000000\xff", strings.Repeat("１", 16)} {
		isOf(t, []string{"show", s}, usage("argument 1"))
	}
}

// P30.1: digits
func TestDigits(t *testing.T) {
	for _, s := range numberTexts {
		x, _ := text.Parse(s)
		for _, n := range []int{0, 1, 2, 17, 20, api.MaxDigits, api.MaxDigits + 1, 999999999} {
			digits, why := text.Digits(x.Bits, n)
			isOf(t, []string{"digits", fmt.Sprint(n), s}, putOr(why, digits+"\n"))
		}
	}
	is(t, "digits 3 0.1", put("1.00e-1\n"))
	is(t, "digits 20 0.1", put("1.0000000000000000555e-1\n"))
	is(t, "digits 1 -0", put("-0\n"))
	is(t, "digits 0 1", failed(api.ErrRange))
	is(t, "digits 1025 1", failed(api.ErrRange))
}

// P30.1: next
func TestNext(t *testing.T) {
	for _, s := range numberTexts {
		x, _ := text.Parse(s)
		isOf(t, []string{"next", s}, put(text.Shortest(bits.Down(x.Bits))+" "+text.Shortest(bits.Up(x.Bits))+"\n"))
	}
	for s, want := range map[string]string{
		"1": "9.999999999999999e-1 1.0000000000000002e0", "-1": "-1.0000000000000002e0 -9.999999999999999e-1", "0": "-5e-324 5e-324", "-0": "-5e-324 5e-324", "5e-324": "0 1e-323", "-5e-324": "-1e-323 -0", "inf": "1.7976931348623157e308 inf", "-inf": "-inf -1.7976931348623157e308", "1.7976931348623157e308": "1.7976931348623155e308 inf", "nan": "nan nan",
	} {
		is(t, "next "+s, put(want+"\n"))
	}
}

// P30.1: each constant.
func TestConst(t *testing.T) {
	for i, name := range strings.Fields("pi ln2 ln10 e invpi invln2 invln10") {
		for _, n := range []int{0, 1, 2, 50, 500, 501, 999999999} {
			digits, why := consts.Digits(api.ConstPi+api.ConstKind(i), n)
			is(t, fmt.Sprint("const ", name, " ", n), putOr(why, digits+"\n"))
		}
	}
	for words, want := range map[string]string{
		"const pi 5": "3.14159", "const ln2 10": "0.6931471805", "const ln10 5": "2.30258", "const e 9": "2.718281828", "const invpi 5": "0.31830", "const invln2 5": "1.44269", "const invln10 5": "0.43429",
	} {
		is(t, words, put(want+"\n"))
	}
	is(t, "const pi 0", failed(api.ErrRange))
	is(t, "const pi 501", failed(api.ErrRange))
	for _, s := range []string{"", "PI", "Pi", "pi ", "p", "π", "ln", "ln3", "log2", "invpi2", "inv", "inve", "1", "none", "tau", "E"} {
		isOf(t, []string{"const", s, "5"}, usage("argument 1"))
	}
}

// P30.1: each kind of table.
func TestTable(t *testing.T) {
	for i, name := range strings.Fields("exp2 log inverse atan sinpi") {
		for _, c := range [][2]int{{0, 8}, {1, 8}, {3, 53}, {5, 256}, {10, 20}, {11, 8}, {0, 7}, {0, 0}, {2, 257}, {999999999, 8}, {1, 999999999}} {
			l, why := tables.All(api.TableExp2+api.TableKind(i), c[0], c[1])
			out, _ := tables.Print(l)
			is(t, fmt.Sprint("table ", name, " ", c[0], " ", c[1]), putOr(why, out))
			if why == api.OK && strings.Count(out, "\n") != 1<<c[0] {
				t.Errorf("table %s %v: %.90q", name, c, out)
			}
		}
	}
	for words, want := range map[string]string{
		"table inverse 1 8": "0x1p0\n0xabp-8\n", "table exp2 1 8": "0x1p0\n0xb5p-7\n", "table log 0 8": "0x0p0\n", "table atan 0 8": "0x0p0\n", "table sinpi 1 8": "0x0p0\n0xb5p-8\n",
	} {
		is(t, words, put(want))
	}
	is(t, "table log 11 53", failed(api.ErrRange))
	for _, s := range []string{"", "exp", "EXP2", "exp2 ", "ln", "inv", "inverses", "sin", "cospi", "1", "none"} {
		isOf(t, []string{"table", s, "1", "8"}, usage("argument 1"))
	}
}

// P30.1: a count is looked at wherever it stands.
func TestCounts(t *testing.T) {
	for _, s := range noCounts {
		isOf(t, []string{"enclose", "exp", s, "1"}, usage("argument 2"))
		isOf(t, []string{"enclose", "pow", s, "x", ""}, usage("argument 2"))
		isOf(t, []string{"digits", s, "1"}, usage("argument 1"))
		isOf(t, []string{"const", "pi", s}, usage("argument 2"))
		isOf(t, []string{"table", "exp2", s, "8"}, usage("argument 2"))
		isOf(t, []string{"table", "exp2", "1", s}, usage("argument 3"))
	}
	for _, n := range []int{0, 1, 9, 10, 99, 12345678, 100000000, 123456789, 999999999} {
		digits, why := consts.Digits(api.ConstPi, n)
		is(t, fmt.Sprint("const pi ", n), putOr(why, digits+"\n"))
	}
}

// P30.1: a number is looked at wherever it stands.
func TestNumbers(t *testing.T) {
	for _, s := range noNumbers {
		isOf(t, []string{"call", "exp", s}, usage("argument 2"))
		isOf(t, []string{"call", "hypot", s, "1"}, usage("argument 2"))
		isOf(t, []string{"call", "hypot", "1", s}, usage("argument 3"))
		isOf(t, []string{"call", "hypot", s, s}, usage("argument 2"))
		isOf(t, []string{"enclose", "exp", "64", s}, usage("argument 3"))
		isOf(t, []string{"enclose", "pow", "64", s, "1"}, usage("argument 3"))
		isOf(t, []string{"enclose", "pow", "64", "1", s}, usage("argument 4"))
		isOf(t, []string{"digits", "3", s}, usage("argument 2"))
		isOf(t, []string{"next", s}, usage("argument 1"))
	}
}

// P30.1: the same call by one text of a number or another.
func TestOneNumberManyTexts(t *testing.T) {
	want := put("4.0160089049326436e-1 3fd9b3d438ada293 inexact\n")
	for _, s := range []string{"1.5", "+1.5", "15e-1", "0x1.8p0", "0X18P-4", "01.50", "0.15E1"} {
		for _, y := range []string{"-2.25", "-225e-2", "-0x1.2p1", "-0X24P-4", "-00002.2500"} {
			isOf(t, []string{"call", "pow", s, y}, want)
		}
	}
}
