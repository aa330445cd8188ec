package session_test

import (
	"fmt"
	"math"
	"regexp"
	"slices"
	"strings"
	"testing"

	"ulp/api"
	"ulp/probe"
	"ulp/session"
)

// names stand by the functions' numbers, from FuncExp on; flagNames by the flags' bits.
var (
	names     = strings.Fields("exp exp2 exp10 expm1 exp2m1 exp10m1 log log2 log10 log1p log2p1 log10p1 sin cos tan sinpi cospi tanpi asin acos atan asinpi acospi atanpi sinh cosh tanh asinh acosh atanh cbrt rsqrt atan2 atan2pi pow hypot")
	flagNames = strings.Fields("invalid divbyzero overflow underflow inexact")
	setWords  = map[api.OpKind]string{api.OpTest: "test", api.OpClear: "clear", api.OpRaise: "raise"}
)

func setText(f api.Flags) string {
	var words []string
	for i, name := range flagNames {
		if f>>i&1 != 0 {
			words = append(words, name)
		}
	}
	if words == nil {
		return "none"
	}
	return strings.Join(words, " ")
}

// textOf is the line of an entry that has one, told without the package.
func textOf(e api.Entry) string {
	switch e.Op {
	case api.OpCall:
		return fmt.Sprintf("call %s %d %016x %016x\n", names[e.Func-1], e.Stage, e.X, e.Y)
	case api.OpHold:
		return "hold\n"
	default:
		return setWords[e.Op] + " " + setText(api.Flags(e.X)) + "\n"
	}
}

// refusedAt: Parse tells this error, this line and nothing beside.
func refusedAt(t *testing.T, s string, want api.Errno, at int) {
	t.Helper()
	if l, why, line := session.Parse(s); len(l) != 0 || why != want || line != at {
		t.Errorf("Parse(%.90q) = %d entries, error %d at %d; want error %d at %d", s, len(l), why, line, want, at)
	}
}

// readAs: Parse reads this script, and nothing beside.
func readAs(t *testing.T, s string, want []api.Entry) {
	t.Helper()
	if l, why, line := session.Parse(s); !slices.Equal(l, want) || why != api.OK || line != 0 {
		t.Errorf("Parse(%.90q) = %d entries, error %d at %d; want %d entries", s, len(l), why, line, len(want))
	}
}

// written: Print writes this.
func written(t *testing.T, l []api.Entry, want string) {
	t.Helper()
	if s, why := session.Print(l); s != want || why != api.OK {
		t.Errorf("Print of %d entries = %.90q, error %d; want %.90q", len(l), s, why, want)
	}
}

// unwritten: Print tells this error and nothing beside.
func unwritten(t *testing.T, l []api.Entry, want api.Errno) {
	t.Helper()
	if s, why := session.Print(l); s != "" || why != want {
		t.Errorf("Print(%+v of %d) = %.90q, error %d; want error %d", l[len(l)-1], len(l), s, why, want)
	}
}

// every are entries that have a text: of all functions, stages and sets.
func every() []api.Entry {
	list := []api.Entry{{Op: api.OpHold}}
	s := probe.Source(29)
	for f := api.FuncExp; f < api.FuncCount; f++ {
		for stage := range 3 {
			list = append(list, callOf(f, s.Word()>>s.Below(64), s.Word()<<s.Below(64), stage), callOf(f, 0, math.MaxUint64, stage))
		}
	}
	for _, op := range setOps {
		for x := range uint64(api.AllFlags) + 1 {
			list = append(list, api.Entry{Op: op, X: x})
		}
	}
	return list
}

// 29.3, 29.8: each entry alone, and all together, there and back.
func TestThereAndBack(t *testing.T) {
	var all strings.Builder
	for _, e := range every() {
		text := textOf(e)
		written(t, []api.Entry{e}, text)
		readAs(t, text, []api.Entry{e})
		all.WriteString(text)
	}
	written(t, every(), all.String())
	readAs(t, all.String(), every())
}

// 29.3: nothing, and as much as there may be.
func TestNothingAndMost(t *testing.T) {
	written(t, nil, "")
	written(t, []api.Entry{}, "")
	readAs(t, "", nil)
	for _, e := range []api.Entry{{Op: api.OpHold}, setEntry(api.OpRaise, api.AllFlags), callOf(api.FuncExp10m1, math.MaxUint64, one, 2)} {
		for _, n := range []int{1, 2, api.MaxLines - 1, api.MaxLines} {
			l, text := slices.Repeat([]api.Entry{e}, n), strings.Repeat(textOf(e), n)
			written(t, l, text)
			readAs(t, text, l)
		}
		refusedAt(t, strings.Repeat(textOf(e), api.MaxLines+1), api.ErrMany, 0)
		unwritten(t, slices.Repeat([]api.Entry{e}, api.MaxLines+1), api.ErrMany)
	}
}

// 29.3: Print of entries that are not right, and of such whose fields that are no matter are not zero.
func TestPrintRefuses(t *testing.T) {
	list := append(bad(), api.Entry{})
	for _, op := range setOps {
		for _, x := range []uint64{0, 16, 31} {
			list = append(list, api.Entry{Op: op, X: x, Func: api.FuncExp}, api.Entry{Op: op, X: x, Func: 255}, api.Entry{Op: op, X: x, Stage: 1}, api.Entry{Op: op, X: x, Stage: -1}, api.Entry{Op: op, X: x, Y: 1}, api.Entry{Op: op, X: x, Y: sign})
		}
	}
	list = append(list, api.Entry{Op: api.OpHold, Func: api.FuncExp}, api.Entry{Op: api.OpHold, Stage: 1}, api.Entry{Op: api.OpHold, X: 1}, api.Entry{Op: api.OpHold, X: sign}, api.Entry{Op: api.OpHold, Y: 1}, api.Entry{Op: api.OpHold, Stage: math.MinInt})
	for _, e := range list {
		unwritten(t, []api.Entry{e}, api.ErrScript)
		unwritten(t, []api.Entry{{Op: api.OpHold}, callOf(api.FuncExp, 0, 0, 0), e}, api.ErrScript)
	}
	unwritten(t, append(list[:1:1], holds(api.MaxLines)...), api.ErrMany) // more than there may be comes first
	unwritten(t, append(list[:1:1], holds(api.MaxLines-1)...), api.ErrScript)
}

// wrongLines are no entry's, each for one reason.
func wrongLines() []string {
	const x, y = "3ff0000000000000", "0123456789abcdef"
	list := []string{
		"", " ", "  ", "\t", "\r", "\x00", "\xff", "hold\r", "hold ", " hold", "  hold", "hold  ", "hold\t", "\thold", "hold hold", "hold none", "hold 0", "Hold", "HOLD", "hol", "holdd", "hold\x00", "h\xffld", "hold\xff", "\xffhold", "hоld", "ｈｏｌｄ", "hold\u00a0", "\ufeffhold", "hold\u2028", "fly", "none", "call", "test", "clear", "raise", "call ", "test ", "clear ", "raise ", "0", "#hold", "hold;",
		"call exp 0 " + x, "call exp 0 " + x + " ", "call exp 0 " + x + " " + y + " ", " call exp 0 " + x + " " + y, "call exp 0 " + x + " " + y + " " + y, "call exp 0 " + x + " " + y + "\r", "call  exp 0 " + x + " " + y, "call exp  0 " + x + " " + y, "call exp 0  " + x + " " + y, "call exp 0 " + x + "  " + y, "call exp 0 " + x + "\t" + y, "call\texp 0 " + x + " " + y,
		"call exp " + x + " " + y, "call 0 " + x + " " + y, "exp 0 " + x + " " + y, "call exp exp 0 " + x + " " + y, "call 0 exp " + x + " " + y, "call exp 0 0 " + x + " " + y, "Call exp 0 " + x + " " + y, "CALL exp 0 " + x + " " + y,
	}
	for _, name := range []string{"", "fly", "EXP", "Exp", "none", "exp3", "ex", "expp", "e\xffp", "exp\xff", "éxp", "1", "sqrt", "ＳＩＮ"} {
		list = append(list, "call "+name+" 0 "+x+" "+y)
	}
	for _, stage := range []string{"", "3", "4", "9", "-1", "-0", "+0", "+1", "00", "01", "02", "10", "12", "20", "0.", "0x0", "a", "one", "0\x00", "\xff", "０", "²", "1_0", "18446744073709551616", "4294967296", strings.Repeat("0", 100)} {
		list = append(list, "call exp "+stage+" "+x+" "+y)
	}
	for _, bits := range []string{"", "0", x[1:], x + "0", "0" + x, strings.ToUpper(y), "3FF0000000000000", "0x3ff00000000000", "+ff0000000000000", "-ff0000000000000", "3ff000000000000g", "3ff0_00000000000", "3ff000000000000\xff", "3ff000000000000é", "３ff000000000000", "3ff000000000000\x00", "1.0", "one", "00000000000000000", strings.Repeat("f", 17)} {
		list = append(list, "call exp 0 "+bits+" "+y, "call exp 0 "+x+" "+bits, "call pow 2 "+bits+" "+bits)
	}
	for _, word := range []string{"test", "clear", "raise"} {
		for _, set := range []string{"", " ", "Inexact", "INEXACT", "inexac", "inexacts", "inexact ", " inexact", "inexact\r", "inexact invalid", "overflow divbyzero", "underflow overflow", "inexact underflow", "inexact inexact", "invalid  inexact", "invalid\tinexact", "invalid,inexact", "invalidinexact", "none none", "none inexact", "inexact none", "None", "all", "0", "16", "31", "inexact 0", "in\xffxact", "inexact\xff", "inexаct", "invalid divbyzero overflow underflow inexact none", "invalid divbyzero overflow inexact underflow", "hold"} {
			list = append(list, word+" "+set)
		}
		list = append(list, word+"inexact", strings.ToUpper(word)+" inexact", word[1:]+" inexact", word+"\tinexact", " "+word+" inexact")
	}
	return list
}

// 29.3: a wrong line is told by its number, wherever it stands, and the first of several is.
func TestParseRefuses(t *testing.T) {
	for i, line := range wrongLines() {
		refusedAt(t, line+"\n", api.ErrScript, 1)
		refusedAt(t, line+"\nhold\n", api.ErrScript, 1)
		refusedAt(t, "hold\ntest none\n"+line+"\n", api.ErrScript, 3)
		n := i % 7
		refusedAt(t, strings.Repeat("hold\n", n)+line+"\nhold\nfly\nhold", api.ErrScript, n+1)
		if line != "" {
			refusedAt(t, line, api.ErrScript, 1)
			refusedAt(t, "hold\n"+line, api.ErrScript, 2)
		}
	}
}

// 29.3: a last line without an LF is none, whatever it is; LFs alone are empty lines.
func TestParseEnds(t *testing.T) {
	for _, e := range every() {
		text := textOf(e)
		refusedAt(t, text[:len(text)-1], api.ErrScript, 1)
		refusedAt(t, text+text[:len(text)-1], api.ErrScript, 2)
		refusedAt(t, text[:len(text)-1]+"\r\n", api.ErrScript, 1)
		refusedAt(t, text+"\n", api.ErrScript, 2)
		refusedAt(t, "\n"+text, api.ErrScript, 1)
		refusedAt(t, text+"\n"+text, api.ErrScript, 2)
	}
	refusedAt(t, "\n", api.ErrScript, 1)
	refusedAt(t, "\n\n", api.ErrScript, 1)
	refusedAt(t, "hold\r\nhold\r\n", api.ErrScript, 1)
	refusedAt(t, "hold\rhold\r", api.ErrScript, 1)
	refusedAt(t, strings.Repeat("hold\n", api.MaxLines-1)+"hold", api.ErrScript, api.MaxLines)
	refusedAt(t, strings.Repeat("hold\n", api.MaxLines-1)+"fly\n", api.ErrScript, api.MaxLines)
}

// 29.3: which of several faults is told: too long, then too many lines, then the first wrong one.
func TestParseOrder(t *testing.T) {
	const most = api.MaxLines * 64
	full := strings.Repeat("x", most)
	refusedAt(t, full, api.ErrScript, 1)
	refusedAt(t, full+"x", api.ErrLong, 0)
	refusedAt(t, full[1:]+"\n", api.ErrScript, 1)
	refusedAt(t, full+"\n", api.ErrLong, 0)
	refusedAt(t, strings.Repeat(" ", most), api.ErrScript, 1)
	refusedAt(t, strings.Repeat("\n", api.MaxLines), api.ErrScript, 1)
	refusedAt(t, strings.Repeat("\n", api.MaxLines+1), api.ErrMany, 0)
	refusedAt(t, strings.Repeat("\n", api.MaxLines)+"x", api.ErrMany, 0)
	refusedAt(t, strings.Repeat("\n", most), api.ErrMany, 0)
	refusedAt(t, strings.Repeat("\n", most+1), api.ErrLong, 0)
	refusedAt(t, strings.Repeat("hold\n", api.MaxLines)+"h", api.ErrMany, 0)
	refusedAt(t, "fly\n"+strings.Repeat("hold\n", api.MaxLines), api.ErrMany, 0)
	refusedAt(t, "hold\n"+full[:most-5], api.ErrScript, 2)
	refusedAt(t, "hold\n"+full[:most-4], api.ErrLong, 0)
	refusedAt(t, strings.Repeat("é", most/2), api.ErrScript, 1) // bytes are counted, not runes
	refusedAt(t, strings.Repeat("é", most/2+1), api.ErrLong, 0)
}

// wellFormed are the lines of entries, told in another way.
var wellFormed = regexp.MustCompile(`^(hold|(test|clear|raise) (none|invalid( divbyzero)?( overflow)?( underflow)?( inexact)?|divbyzero( overflow)?( underflow)?( inexact)?|overflow( underflow)?( inexact)?|underflow( inexact)?|inexact)|call (` + strings.Join(names, "|") + `) [012] [0-9a-f]{16} [0-9a-f]{16})\n$`)

// 29.3, 29.8: right lines with one sign changed, added, taken away or doubled: just those that are lines of an entry are read, and written back as they were.
func TestParseForms(t *testing.T) {
	right, wrong := 0, 0
	check := func(s string) {
		l, why, line := session.Parse(s)
		if !wellFormed.MatchString(s) {
			wrong++
			if len(l) != 0 || why != api.ErrScript || line < 1 || line > 2 {
				t.Errorf("Parse(%q) = %+v, error %d at %d", s, l, why, line)
			}
			return
		}
		right++
		if len(l) != 1 || why != api.OK || line != 0 {
			t.Fatalf("Parse(%q) = %+v, error %d at %d", s, l, why, line)
		}
		written(t, l, s)
	}
	const signs = "0129afgpx AF\n\r\t\x00\xffé+-_"
	s := probe.Source(3)
	for _, e := range every() {
		text := textOf(e)
		for range 40 {
			i := s.Below(len(text))
			sign := signs[s.Below(len(signs)):][:1]
			check(text[:i] + sign + text[i+1:])
			check(text[:i] + sign + text[i:])
			check(text[:i] + text[i+1:])
			check(text[:i] + text[i:i+1] + text[i:])
		}
	}
	if right < 1000 || wrong < 10000 {
		t.Errorf("%d right, %d wrong", right, wrong)
	}
}

// P1: no text, however strange, makes Parse panic, and what it takes is written back.
func TestParseAnything(t *testing.T) {
	s := probe.Source(5)
	words := []string{"call", "test", "clear", "raise", "hold", "exp", "pow", "0", "2", "3", "3ff0000000000000", "0000000000000000", "inexact", "invalid", "none", "\n", "\n", " ", " ", "\r", "\xff", ""}
	taken := 0
	for range 30000 {
		var text strings.Builder
		for range s.Below(8) {
			text.WriteString(words[s.Below(len(words))])
			if s.Below(3) > 0 {
				text.WriteString(" \n"[s.Below(2):][:1])
			}
		}
		l, why, line := session.Parse(text.String())
		switch {
		case why == api.OK && line == 0:
			taken++
			written(t, l, text.String())
		case why != api.ErrScript || line < 1 || len(l) != 0:
			t.Errorf("Parse(%q) = %+v, error %d at %d", text.String(), l, why, line)
		}
	}
	if taken < 100 {
		t.Errorf("%d taken", taken)
	}
}
