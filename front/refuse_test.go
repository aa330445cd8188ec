package front_test

import (
	"slices"
	"strings"
	"testing"

	"ulp/api"
)

// right are commands with arguments as they must be, by their words; script wants a file, the others none.
var right = map[string][]string{
	"names": {}, "call": {"exp", "1"}, "enclose": {"exp", "64", "1"}, "read": {"1"}, "show": {"3ff0000000000000"}, "digits": {"3", "1"}, "next": {"1"}, "const": {"pi", "5"}, "table": {"exp2", "1", "8"}, "script": {},
}

// wrong are arguments of which none is what it must be, as many as the command wants (read takes any).
var wrong = map[string][]string{
	"call": {"fly", "x"}, "enclose": {"fly", "08", "x"}, "show": {"1"}, "digits": {"08", "x"}, "next": {"x"}, "const": {"fly", "08"}, "table": {"fly", "08", "-1"},
}

// filesOf are as many files as a command wants.
func filesOf(word string) []string {
	if word == "script" {
		return []string{"hold\n"}
	}
	return nil
}

func with(word string, args ...string) []string { return append([]string{word}, args...) }

// P30.1: no arguments, and commands that are none, whatever stands behind them.
func TestNoCommand(t *testing.T) {
	for _, files := range [][]string{nil, {}, {"hold\n"}, {"", ""}} {
		isOf(t, nil, usage("command"), files...)
		isOf(t, []string{}, usage("command"), files...)
		for _, word := range []string{"", " ", "fly", "exp", "Names", "NAMES", "CALL", "names ", " names", "name", "namess", "call exp 1", "-names", "--help", "help", "usage", "0", "\x00", "\xff", "call\xff", "cаll", "ｃａｌｌ", strings.Repeat("call", 10000)} {
			isOf(t, with(word), usage("command"), files...)
			isOf(t, with(word, "exp", "1"), usage("command"), files...)
			isOf(t, with(word, "names"), usage("command"), files...)
		}
	}
}

// P30.1: every command with the right number of arguments and of files, with fewer, with more.
func TestHowMany(t *testing.T) {
	if len(right) != 10 {
		t.Fatal("commands:", len(right))
	}
	for word, args := range right {
		files := filesOf(word)
		if got := run(with(word, args...), files...); got.code != 0 || got.said != "" || !strings.HasSuffix(got.out, "\n") {
			t.Errorf("%s %q: %+v", word, args, got)
		}
		for n := range args {
			isOf(t, with(word, args[:n]...), usage("arguments"), files...)
		}
		for _, more := range [][]string{{""}, {"1"}, {"x"}, {"1", "1"}, {"1", "", "x"}, slices.Repeat([]string{"1"}, 1000)} {
			isOf(t, with(word, slices.Concat(args, more)...), usage("arguments"), files...)
		}
		for n := range 4 {
			if n != len(files) {
				isOf(t, with(word, args...), usage("files"), slices.Repeat([]string{"hold\n"}, n)...)
				isOf(t, with(word, args...), usage("files"), make([]string, n)...)
			}
		}
	}
}

// P30.1: of several refusals: the number of arguments, then the first wrong one, then the files, then errors.
func TestOrderOfRefusals(t *testing.T) {
	many := []string{"hold\n", "hold\n"}
	for word, args := range wrong {
		good := right[word]
		isOf(t, with(word, args...), usage("argument 1"), many...)
		for i := range args {
			one := slices.Clone(good)
			one[i] = args[i]
			isOf(t, with(word, one...), usage("argument "+string(rune('1'+i))), many...)
			isOf(t, with(word, slices.Concat(good[:i], args[i:])...), usage("argument "+string(rune('1'+i))))
		}
		if word != "call" && word != "enclose" {
			isOf(t, with(word, slices.Concat(args, []string{"1"})...), usage("arguments"), many...)
			isOf(t, with(word, args[1:]...), usage("arguments"), many...)
		}
	}
	for _, line := range []string{"read x", "digits 0 1", "const pi 0", "table exp2 11 8", "enclose exp 7 1", "enclose log 64 0"} {
		args := strings.Split(line, " ")
		isOf(t, args, usage("files"), many...)
		if got := run(args); got.code != 1 || got.out != "" || !strings.HasPrefix(got.said, "error ") {
			t.Errorf("%s: %+v", line, got)
		}
	}
	isOf(t, []string{"script", "x"}, usage("arguments"))
	isOf(t, []string{"script", "x"}, usage("arguments"), many...)
	isOf(t, []string{"script"}, usage("files"), "fly\n", "fly\n")
}

// P30.1: of call and enclose fewer than two arguments are told first, then the function, then another number than it wants.
func TestFunctionAheadOfTheNumber(t *testing.T) {
	for _, c := range []struct {
		line string
		want answer
	}{
		{"call", usage("arguments")}, {"call exp", usage("arguments")}, {"call fly", usage("arguments")}, {"call pow", usage("arguments")}, {"call 1", usage("arguments")},
		{"call fly 1", usage("argument 1")}, {"call fly x", usage("argument 1")}, {"call fly 1 2", usage("argument 1")}, {"call fly 1 2 3 4", usage("argument 1")}, {"call 1 exp", usage("argument 1")}, {"call EXP 1", usage("argument 1")}, {"call  1", usage("argument 1")},
		{"call exp 1 2", usage("arguments")}, {"call exp x 2", usage("arguments")}, {"call pow 1", usage("arguments")}, {"call pow x", usage("arguments")}, {"call pow 1 2 3", usage("arguments")}, {"call exp x", usage("argument 2")}, {"call pow x 2", usage("argument 2")}, {"call pow 2 x", usage("argument 3")}, {"call pow x x", usage("argument 2")},
		{"enclose", usage("arguments")}, {"enclose exp", usage("arguments")}, {"enclose fly", usage("arguments")}, {"enclose 64", usage("arguments")},
		{"enclose exp 64", usage("arguments")}, {"enclose exp 08", usage("arguments")}, {"enclose exp 1", usage("arguments")}, {"enclose pow 64", usage("arguments")}, {"enclose pow 64 1", usage("arguments")}, {"enclose pow 08 1", usage("arguments")}, {"enclose exp 64 1 2", usage("arguments")}, {"enclose pow 64 1 2 3", usage("arguments")}, {"enclose cbrt 64", usage("arguments")},
		{"enclose fly 64", usage("argument 1")}, {"enclose fly 08", usage("argument 1")}, {"enclose fly 64 1", usage("argument 1")}, {"enclose fly 64 1 2 3 4", usage("argument 1")}, {"enclose 64 exp 1", usage("argument 1")}, {"enclose Exp 64 1", usage("argument 1")},
		{"enclose exp 08 x", usage("argument 2")}, {"enclose exp 1 x", usage("argument 3")}, {"enclose pow 1 x x", usage("argument 3")}, {"enclose pow 1 1 x", usage("argument 4")}, {"enclose pow x x x", usage("argument 2")}, {"enclose exp 1.0 64", usage("argument 2")},
	} {
		is(t, c.line, c.want)
		isOf(t, strings.Split(c.line, " "), c.want, "hold\n")
	}
	for _, name := range []string{"", "fly", "EXP", "exp ", " exp", "exp3", "none", "é", "\xff", "e\xffp", strings.Repeat("exp", 9000)} {
		isOf(t, []string{"call", name, "1"}, usage("argument 1"))
		isOf(t, []string{"call", name, "1", "2"}, usage("argument 1"))
		isOf(t, []string{"enclose", name, "64", "1"}, usage("argument 1"))
		isOf(t, []string{"call", name}, usage("arguments"))
	}
}

// P30.1: numbers of all functions: one fewer, one more than each wants.
func TestEveryFunctionWantsItsNumbers(t *testing.T) {
	for i, name := range functions {
		wants := 1 + i/32
		for n := range 5 {
			numbers := slices.Repeat([]string{"0.5"}, n)
			called, enclosed := run(with("call", slices.Concat([]string{name}, numbers)...)), run(with("enclose", slices.Concat([]string{name, "64"}, numbers)...))
			if (called == usage("arguments")) != (n != wants) || (enclosed == usage("arguments")) != (n != wants) {
				t.Errorf("%s of %d numbers: %+v, %+v", name, n, called, enclosed)
			}
		}
	}
}

// P30.1: errors of what is called, with their numbers; nothing is put out beside.
func TestErrors(t *testing.T) {
	for line, want := range map[string]api.Errno{
		"read x": 280, "read 1e": 280, "digits 0 1": 2, "digits 1025 nan": 2, "const e 501": 2, "table atan 11 8": 2, "table atan 1 7": 2, "table atan 1 257": 2, "enclose rsqrt 64 4": 2, "enclose acos 64 2": 5, "enclose tanpi 64 0.5": 5, "enclose pow 64 -8 0.5": 5, "enclose exp2 64 -1e300": 3,
	} {
		is(t, line, failed(want))
	}
	isOf(t, []string{"read", ""}, failed(280))
	isOf(t, []string{"read", strings.Repeat("1", api.MaxText+1)}, failed(4))
}
