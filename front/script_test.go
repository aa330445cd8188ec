package front_test

import (
	"fmt"
	"strings"
	"testing"

	"ulp/api"
	"ulp/flags"
	"ulp/probe"
	"ulp/session"
)

func script(file string) answer { return run([]string{"script"}, file) }

// scripted: a script is answered so.
func scripted(t *testing.T, file string, want answer) {
	t.Helper()
	isOf(t, []string{"script"}, want, file)
}

// P30.1: what each kind of entry puts out, and the flags at the end.
func TestScript(t *testing.T) {
	const exp1 = "2.718281828459045e0 4005bf0a8b145769 inexact\n"
	for file, want := range map[string]string{
		"": "flags none\n",
		"call log 0 0000000000000000 0000000000000000\ntest divbyzero\n": "-inf fff0000000000000 divbyzero\ndivbyzero\nflags divbyzero\n",
		"call exp 0 3ff0000000000000 0000000000000000\n":                 exp1 + "flags inexact\n",
		"call exp 2 3ff0000000000000 ffffffffffffffff\nhold\n":           exp1 + "inexact\nflags none\n",
		"hold\n":                               "none\nflags none\n",
		"test none\n":                          "none\nflags none\n",
		"test invalid inexact\n":               "none\nflags none\n",
		"clear inexact\n":                      "ok\nflags none\n",
		"raise none\n":                         "ok\nflags none\n",
		"raise inexact\n":                      "ok\nflags inexact\n",
		"raise invalid overflow\nhold\nhold\n": "ok\ninvalid overflow\nnone\nflags none\n",
		"raise invalid overflow\nclear invalid\ntest invalid overflow inexact\n":            "ok\nok\noverflow\nflags overflow\n",
		"raise invalid divbyzero overflow underflow inexact\n":                              "ok\nflags invalid divbyzero overflow underflow inexact\n",
		"call sin 1 7ff0000000000001 0000000000000000\ntest invalid\nclear invalid\nhold\n": "nan 7ff8000000000000 invalid\ninvalid\nok\nnone\nflags none\n",
		"call pow 0 4000000000000000 4024000000000000\n":                                    "1.024e3 4090000000000000 none\nflags none\n",
		"call atan2 1 8000000000000000 bff0000000000000\n":                                  "-3.141592653589793e0 c00921fb54442d18 inexact\nflags inexact\n",
	} {
		scripted(t, file, put(want))
	}
}

// P30.1: errors of the script's text, with the line, if there is one.
func TestScriptRefused(t *testing.T) {
	for file, at := range map[string]int{
		"hold\nfly\n": 2, "fly\n": 1, "hold": 1, "hold\nhold": 2, "\n": 1, "hold\n\nhold\n": 2, "hold\r\n": 1, "call fly 0 3ff0000000000000 0000000000000000\n": 1, "call exp 3 3ff0000000000000 0000000000000000\n": 1, "raise inexact\ntest\n": 2, "hold\nHOLD\nfly\n": 2, "\xff\n": 1,
		strings.Repeat("hold\n", api.MaxLines-1) + "x\n": api.MaxLines,
	} {
		scripted(t, file, failedAt(290, at))
	}
	scripted(t, strings.Repeat("hold\n", api.MaxLines+1), failed(3))
	scripted(t, strings.Repeat("x", api.MaxLines*64+1), failed(4))
	scripted(t, strings.Repeat("x", api.MaxLines*64), failedAt(290, 1))
	scripted(t, strings.Repeat("hold\n", api.MaxLines), put(strings.Repeat("none\n", api.MaxLines)+"flags none\n"))
}

// scripts are right ones without a pattern.
func scripts(t *testing.T, seed uint64, n int) ([]api.Entry, string) {
	t.Helper()
	s := probe.Source(seed)
	l := make([]api.Entry, n)
	for i := range l {
		switch op := api.OpKind(1 + s.Below(int(api.OpCount)-1)); op {
		case api.OpCall:
			l[i] = api.Entry{Op: op, Func: api.Func(1 + s.Below(36)), Stage: s.Below(3), X: words[s.Below(len(words))], Y: words[s.Below(len(words))]}
		case api.OpHold:
			l[i] = api.Entry{Op: op}
		default:
			l[i] = api.Entry{Op: op, X: uint64(s.Below(32))}
		}
	}
	file, why := session.Print(l)
	if why != api.OK {
		t.Fatal("Print: error", why)
	}
	return l, file
}

// P30.1: scripts without a pattern, line by line as session answers them.
func TestScriptLines(t *testing.T) {
	for seed := range uint64(40) {
		l, file := scripts(t, seed, int(seed)*3)
		replies, stand, _ := session.Run(l)
		var want strings.Builder
		for i, r := range replies {
			switch l[i].Op {
			case api.OpCall:
				want.WriteString(shown(r.Result))
			case api.OpTest, api.OpHold:
				want.WriteString(flags.Show(r.Flags) + "\n")
			default:
				want.WriteString("ok\n")
			}
		}
		scripted(t, file, put(want.String()+fmt.Sprintf("flags %s\n", flags.Show(stand))))
	}
}
