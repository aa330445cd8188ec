package front_test

import (
	"fmt"
	"slices"
	"strings"
	"testing"

	"ulp/front"
	"ulp/probe"
	"ulp/text"
)

// P30.1: the chapter's examples.
func TestExamples(t *testing.T) {
	is(t, "call exp 1", put("2.718281828459045e0 4005bf0a8b145769 inexact\n"))
	is(t, "call pow 2 10", put("1.024e3 4090000000000000 none\n"))
	is(t, "call fly 1", usage("argument 1"))
	is(t, "call exp", usage("arguments"))
	is(t, "read 0.1", put("1e-1 3fb999999999999a inexact\n"))
	is(t, "next 1", put("9.999999999999999e-1 1.0000000000000002e0\n"))
	is(t, "const pi 5", put("3.14159\n"))
	is(t, "digits 3 0.1", put("1.00e-1\n"))
	if got := run([]string{"show", "0000000000000001"}); got.code != 0 || !strings.HasPrefix(got.out, "5e-324 0x1p-1074 0.000") {
		t.Errorf("show of the least number: %.90q", got.out)
	}
	scripted(t, "call log 0 0000000000000000 0000000000000000\ntest divbyzero\n", put("-inf fff0000000000000 divbyzero\ndivbyzero\nflags divbyzero\n"))
}

// anyArgs are arguments of all kinds together, right and wrong.
var anyArgs = []string{"names", "call", "enclose", "read", "show", "digits", "next", "const", "table", "script", "exp", "pow", "hypot", "log", "tanpi", "atan2pi", "pi", "e", "ln2", "inverse", "sinpi", "exp2", "0", "1", "8", "64", "2", "-1", "0.1", "1e300", "inf", "nan", "08", "", " ", "x", "\xff", "é", "3ff0000000000000", "7FF0000000000000", "999999999", "1000000000", "0x1p-1074"}

// P30.2, P30.3: whatever is handed in, there is an answer of one form.
func TestAnything(t *testing.T) {
	s := probe.Source(30)
	_, file := scripts(t, 1, 20)
	anyFiles := []string{"", "hold\n", "hold", "fly\n", "\n", file, "\xff\xfe", "raise inexact\n"}
	codes := map[int]int{}
	for range 20000 {
		args := make([]string, s.Below(6))
		for i := range args {
			args[i] = anyArgs[s.Below(len(anyArgs))]
		}
		if len(args) > 0 && s.Below(8) > 0 {
			args[0] = anyArgs[s.Below(10)]
		}
		if len(args) > 1 && s.Below(2) > 0 {
			args[1] = anyArgs[10+s.Below(12)]
		}
		files := make([]string, max(0, s.Below(6)-3))
		for i := range files {
			files[i] = anyFiles[s.Below(len(anyFiles))]
		}
		got := run(args, files...)
		if wrong := wrongForm(got); wrong != "" {
			t.Errorf("%q, %q: %s: %.90q, %q, %d", args, files, wrong, got.out, got.said, got.code)
		}
		codes[got.code]++
	}
	for _, code := range []int{0, 1, 64} {
		if codes[code] < 200 {
			t.Errorf("code %d was seen %d times", code, codes[code])
		}
	}
}

// wrongForm tells in a few words what is wrong with the form of an answer, "" if nothing is.
func wrongForm(a answer) string {
	begin := map[int]string{1: "error ", 64: "usage "}[a.code]
	switch {
	case a.code != 0 && a.code != 1 && a.code != 64:
		return "the code"
	case a.code == 0 && a.said != "":
		return "something is said"
	case a.code == 0 && (!strings.HasSuffix(a.out, "\n") || strings.Contains(a.out, "\n\n") || a.out == "\n"):
		return "what is put out"
	case a.code != 0 && a.out != "":
		return "something is put out"
	case a.code != 0 && (!strings.HasPrefix(a.said, begin) || strings.Count(a.said, "\n") != 1 || !strings.HasSuffix(a.said, "\n")):
		return "what is said"
	}
	return ""
}

// P30.2: the same arguments have the same answer, whatever was called between.
func TestNothingIsKept(t *testing.T) {
	_, file := scripts(t, 2, 30)
	calls := [][]string{nil, {"names"}, {"call", "exp", "1"}, {"call", "pow", "2", "10"}, {"enclose", "sin", "64", "1"}, {"read", "x"}, {"show", "0000000000000001"}, {"digits", "5", "0.1"}, {"next", "1"}, {"const", "e", "30"}, {"table", "log", "2", "20"}, {"script"}, {"call", "fly", "1"}, {"fly"}}
	first := make([]answer, len(calls))
	for i, args := range calls {
		first[i] = run(args, filesFor(args, file)...)
	}
	for round := range 5 {
		for k := range calls {
			i := (k*5 + round) % len(calls)
			if got := run(calls[i], filesFor(calls[i], file)...); got != first[i] {
				t.Errorf("%q: %+v, at first %+v", calls[i], got, first[i])
			}
			script("raise invalid divbyzero overflow underflow inexact\n")
		}
	}
}

func filesFor(args []string, file string) []string {
	if len(args) > 0 && args[0] == "script" {
		return []string{file}
	}
	return nil
}

// P30.2: what is handed in stays, also behind its end.
func TestHandedInStays(t *testing.T) {
	_, file := scripts(t, 3, 10)
	for _, c := range []struct{ args, files []string }{
		{[]string{"names"}, nil}, {[]string{"call", "pow", "2", "10"}, nil}, {[]string{"enclose", "pow", "64", "2", "0.5"}, nil}, {[]string{"read", "0.1"}, nil}, {[]string{"show", "3ff0000000000000"}, nil}, {[]string{"digits", "3", "0.1"}, nil}, {[]string{"next", "1"}, nil}, {[]string{"const", "pi", "5"}, nil}, {[]string{"table", "exp2", "1", "8"}, nil}, {[]string{"script"}, []string{file}}, {[]string{"call", "fly", "1"}, []string{"x"}},
	} {
		args, files := append(slices.Clone(c.args), "a", "b"), append(slices.Clone(c.files), "c", "d")
		front.Run(args[:len(c.args)], files[:len(c.files)])
		if !slices.Equal(args, append(slices.Clone(c.args), "a", "b")) || !slices.Equal(files, append(slices.Clone(c.files), "c", "d")) {
			t.Errorf("%q, %q became %q, %q", c.args, c.files, args, files)
		}
	}
}

// resultWords are the words of a result that is put out: the number, its bits, its flags.
func resultWords(t *testing.T, a answer) (number, bits, flags string) {
	t.Helper()
	list := strings.SplitN(strings.TrimSuffix(a.out, "\n"), " ", 3)
	if a.code != 0 || len(list) != 3 || len(list[1]) != 16 {
		t.Fatalf("no result: %+v", a)
	}
	return list[0], list[1], list[2]
}

// P30.4: the bits that are put out, shown, begin with the number; read of that number puts out that number and these bits.
func TestThereAndBack(t *testing.T) {
	for i, name := range functions {
		for j, s := range numberTexts {
			args := []string{"call", name, s}
			if i >= 32 {
				args = append(args, numberTexts[(j*3+i)%len(numberTexts)])
			}
			number, bits, _ := resultWords(t, run(args))
			if got := run([]string{"show", bits}); !strings.HasPrefix(got.out, number+" ") || got.code != 0 {
				t.Errorf("%q: %s %s is shown as %.90q", args, number, bits, got.out)
			}
			again, same, _ := resultWords(t, run([]string{"read", number}))
			if again != number || same != bits {
				t.Errorf("%q: %s %s is read as %s %s", args, number, bits, again, same)
			}
		}
	}
}

// P30.4: so it is of what next and read put out.
func TestReadBack(t *testing.T) {
	for _, s := range numberTexts {
		number, _, _ := resultWords(t, run([]string{"read", s}))
		list := append(strings.Fields(run([]string{"next", s}).out), number)
		if len(list) != 3 {
			t.Fatalf("next %s: %q", s, list)
		}
		for _, n := range list {
			if again, _, _ := resultWords(t, run([]string{"read", n})); again != n {
				t.Errorf("%s is read as %s", n, again)
			}
		}
	}
}

// P30.5
func TestScriptOfOneCall(t *testing.T) {
	for i, name := range functions {
		for j, s := range numberTexts {
			x, _ := text.Parse(s)
			other := numberTexts[(j*7+i)%len(numberTexts)]
			y, _ := text.Parse(other)
			args := []string{"call", name, s}
			if i >= 32 {
				args = append(args, other)
			}
			called := run(args)
			got := script(fmt.Sprintf("call %s %d %016x %016x\n", name, j%3, x.Bits, y.Bits))
			_, _, raised := resultWords(t, called)
			if got != put(called.out+"flags "+raised+"\n") {
				t.Errorf("%q: %+v, by a script %+v", args, called, got)
			}
		}
	}
}
