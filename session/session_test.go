package session_test

import (
	"math"
	"slices"
	"testing"

	"ulp/api"
	"ulp/libm"
	"ulp/session"
)

const (
	sign   uint64 = 1 << 63
	inf    uint64 = 0x7ff0000000000000
	nan    uint64 = 0x7ff8000000000000
	signal uint64 = 0x7ff0000000000001
	one    uint64 = 0x3ff0000000000000
	two    uint64 = 0x4000000000000000
	most   uint64 = 0x7fefffffffffffff
)

// setOps are the kinds whose X is a set of flags.
var setOps = []api.OpKind{api.OpTest, api.OpClear, api.OpRaise}

// arguments raise each of the exceptions in one function or another.
var arguments = [][2]uint64{{0, 0}, {sign, one}, {one, one}, {two, 1}, {one | sign, two}, {most, most}, {sign | 1, most}, {inf, 0}, {inf | sign, nan}, {nan, two}, {signal, one}, {0x4090000000000000, 0xc090c80000000000}}

// state is what is seen of a session.
type state struct {
	flags api.Flags
	math  api.MathErr
	done  int
}

func look(s *session.Session) state { return state{s.Flags(), s.Math(), s.Done()} }

// do is what an entry answers, which must be no error.
func do(t *testing.T, s *session.Session, e api.Entry) api.Reply {
	t.Helper()
	r, why := s.Do(e)
	if why != api.OK {
		t.Fatalf("Do(%+v): error %d", e, why)
	}
	return r
}

// play likewise.
func play(t *testing.T, s *session.Session, l []api.Entry) []api.Reply {
	t.Helper()
	r, why := s.Play(l)
	if why != api.OK || len(r) != len(l) {
		t.Fatalf("Play of %d: %d replies, error %d", len(l), len(r), why)
	}
	return r
}

func callOf(f api.Func, x, y uint64, stage int) api.Entry {
	return api.Entry{Op: api.OpCall, Func: f, Stage: stage, X: x, Y: y}
}

func setEntry(op api.OpKind, f api.Flags) api.Entry { return api.Entry{Op: op, X: uint64(f)} }

// standing is a session in which just these flags stand, and errno tells this (MathNone of Inexact alone), after some entries.
func standing(t *testing.T, f api.Flags, m api.MathErr) *session.Session {
	t.Helper()
	s := session.New()
	do(t, s, setEntry(api.OpRaise, f))
	do(t, s, setEntry(api.OpRaise, [...]api.Flags{api.MathNone: 0, api.MathDomain: api.Invalid, api.MathRange: api.Overflow}[m]))
	do(t, s, setEntry(api.OpClear, api.AllFlags&^f))
	return s
}

// starts are sessions that stand in many ways.
func starts(t *testing.T) []*session.Session {
	t.Helper()
	list := []*session.Session{session.New(), standing(t, 0, api.MathNone), standing(t, api.Inexact, api.MathNone)}
	for f := range api.AllFlags + 1 {
		list = append(list, standing(t, f, api.MathDomain), standing(t, f, api.MathRange))
	}
	return list
}

// mathOf is what errno tells of flags.
func mathOf(f api.Flags) api.MathErr {
	switch {
	case f&api.Invalid != 0:
		return api.MathDomain
	case f&(api.DivByZero|api.Overflow|api.Underflow) != 0:
		return api.MathRange
	default:
		return api.MathNone
	}
}

// raise is how a session stands when flags were raised by an entry.
func (s state) raise(f api.Flags) state {
	if m := mathOf(f); m != api.MathNone {
		s.math = m
	}
	return state{s.flags | f, s.math, s.done + 1}
}

// after is what the chapter says of a right entry that is no call: what it answers, and how the session stands then.
func after(s state, e api.Entry) (state, api.Reply) {
	f := api.Flags(e.X)
	old := s.flags
	switch e.Op {
	case api.OpTest:
		return state{old, s.math, s.done + 1}, api.Reply{Flags: old & f}
	case api.OpClear:
		return state{old &^ f, s.math, s.done + 1}, api.Reply{}
	case api.OpRaise:
		return s.raise(f), api.Reply{}
	default:
		return state{0, s.math, s.done + 1}, api.Reply{Flags: old}
	}
}

// 29.1, 29.2
func TestNew(t *testing.T) {
	s, other := session.New(), session.New()
	if look(s) != (state{}) {
		t.Errorf("New stands as %+v", look(s))
	}
	do(t, s, setEntry(api.OpRaise, api.AllFlags))
	if look(s) != (state{api.AllFlags, api.MathDomain, 1}) || look(other) != (state{}) {
		t.Errorf("one raised: %+v, another %+v", look(s), look(other))
	}
}

// 29.1: the starts stand as they say, so that the tests that begin with them see all states.
func TestStarts(t *testing.T) {
	seen := map[state]bool{}
	for _, s := range starts(t) {
		seen[state{flags: s.Flags(), math: s.Math()}] = true
	}
	for f := range api.AllFlags + 1 {
		for _, m := range []api.MathErr{api.MathDomain, api.MathRange} {
			if !seen[state{flags: f, math: m}] {
				t.Errorf("no session stands with the flags %d, errno %d", f, m)
			}
		}
	}
}

// 29.1: test, clear, raise and hold, whatever stands, of all sets.
func TestDoSets(t *testing.T) {
	for _, begin := range starts(t) {
		was := look(begin)
		for x := range uint64(api.AllFlags) + 1 {
			for _, op := range append(slices.Clone(setOps), api.OpHold) {
				e := api.Entry{Op: op, X: x}
				s := begin.Fork()
				want, reply := after(was, e)
				if r := do(t, s, e); r != reply || look(s) != want {
					t.Fatalf("%+v, Do(%+v) = %+v, then %+v; want %+v, then %+v", was, e, r, look(s), reply, want)
				}
			}
		}
	}
}

// 29.1, 29.6: a call answers as libm does, at each stage, and raises what its result has.
func TestDoCalls(t *testing.T) {
	var raised api.Flags
	for f := api.FuncExp; f < api.FuncCount; f++ {
		for i, a := range arguments {
			want, wantWhy := libm.Call(f, a[0], a[1], i%3)
			raised |= want.Flags
			s := standing(t, api.Underflow, api.MathRange)
			was := look(s)
			r := do(t, s, callOf(f, a[0], a[1], i%3))
			if r != (api.Reply{Result: want, Why: wantWhy}) || look(s) != was.raise(want.Flags) {
				t.Errorf("call %s %x: %+v, then %+v; libm %+v, error %d", libm.Name(f), a, r, look(s), want, wantWhy)
			}
		}
	}
	if raised != api.AllFlags {
		t.Errorf("the calls raised %d alone", raised)
	}
}

// bad are entries that are not right.
func bad() []api.Entry {
	var list []api.Entry
	for op := range 256 {
		if op == 0 || op >= int(api.OpCount) {
			list = append(list, api.Entry{Op: api.OpKind(op)}, api.Entry{Op: api.OpKind(op), Func: api.FuncExp, X: 16})
		}
	}
	for f := range 256 {
		if f == 0 || f >= int(api.FuncCount) {
			for _, stage := range []int{-1, 0, 1, 2, 3} {
				list = append(list, callOf(api.Func(f), one, one, stage))
			}
		}
	}
	for f := api.FuncExp; f < api.FuncCount; f++ {
		for _, stage := range []int{-1, 3, 4, -2, 255, 256, 257, 1 << 32, math.MaxInt, math.MinInt} {
			list = append(list, callOf(f, 0, 0, stage))
		}
	}
	for _, op := range setOps {
		for _, x := range noSets() {
			list = append(list, api.Entry{Op: op, X: x})
		}
	}
	return list
}

// noSets are numbers that are no set of flags, also such whose last byte is one.
func noSets() []uint64 {
	list := []uint64{256, 257, 256 + 16, 256 + 31, 511, 512, 1 << 16, 1<<32 | 16, 1<<63 | 1, sign, one, inf, math.MaxUint64}
	for x := uint64(32); x < 256; x++ {
		list = append(list, x)
	}
	return list
}

// 29.1, 29.7: what is not right is told as Bad alone, and changes nothing.
func TestBad(t *testing.T) {
	for _, begin := range []*session.Session{session.New(), standing(t, api.Inexact, api.MathDomain), standing(t, api.Overflow|api.Invalid, api.MathRange)} {
		was := look(begin)
		for _, e := range bad() {
			if r := do(t, begin, e); r != (api.Reply{Bad: true}) || look(begin) != was {
				t.Errorf("%+v, Do(%+v) = %+v, then %+v", was, e, r, look(begin))
			}
		}
	}
}

// 29.7: entries that are not right among such as are: as if they were not there.
func TestBadAmongRight(t *testing.T) {
	right := []api.Entry{callOf(api.FuncLog, 0, 0, 0), setEntry(api.OpTest, api.AllFlags), setEntry(api.OpRaise, api.Overflow), setEntry(api.OpClear, api.DivByZero), {Op: api.OpHold}}
	wrong := bad()
	var mixed []api.Entry
	for i, e := range right {
		mixed = append(append(mixed, wrong[i*len(wrong)/len(right):(i+1)*len(wrong)/len(right)]...), e)
	}
	alone, together := session.New(), session.New()
	want, all := play(t, alone, right), play(t, together, mixed)
	var got []api.Reply
	for _, r := range all {
		if !r.Bad {
			got = append(got, r)
		}
	}
	if !slices.Equal(got, want) || look(alone) != look(together) || together.Done() != len(right) {
		t.Errorf("%+v, then %+v; alone %+v, then %+v", got, look(together), want, look(alone))
	}
}

// 29.1: fields that are no matter, with any value.
func TestNoMatter(t *testing.T) {
	funcs, stages, words := []api.Func{0, api.FuncExp, api.FuncHypot, api.FuncCount, 255}, []int{-1, 0, 2, 3, math.MaxInt, math.MinInt}, []uint64{0, 31, 32, 256, math.MaxUint64}
	begin := standing(t, api.Invalid|api.Underflow, api.MathRange)
	for _, f := range funcs {
		for _, stage := range stages {
			for _, w := range words {
				for _, op := range setOps {
					e := api.Entry{Op: op, Func: f, Stage: stage, X: uint64(api.Underflow | api.Inexact), Y: w}
					s := begin.Fork()
					want, reply := after(look(s), e)
					if r := do(t, s, e); r != reply || look(s) != want {
						t.Errorf("Do(%+v) = %+v, then %+v", e, r, look(s))
					}
				}
				e := api.Entry{Op: api.OpHold, Func: f, Stage: stage, X: w, Y: ^w}
				s := begin.Fork()
				want, reply := after(look(s), e)
				if r := do(t, s, e); r != reply || look(s) != want {
					t.Errorf("Do(%+v) = %+v, then %+v", e, r, look(s))
				}
			}
		}
	}
	for _, y := range []uint64{0, one, nan, signal, math.MaxUint64} {
		if r := do(t, session.New(), callOf(api.FuncExp, one, y, 0)); r != (api.Reply{Result: api.Result{Bits: 0x4005bf0a8b145769, Flags: api.Inexact}}) {
			t.Errorf("exp of 1, y %x: %+v", y, r)
		}
	}
}

// 29.4
func TestNilSession(t *testing.T) {
	var s *session.Session
	for _, e := range append(bad(), callOf(api.FuncExp, one, 0, 0), setEntry(api.OpTest, api.Inexact), api.Entry{Op: api.OpHold}) {
		if r, why := s.Do(e); r != (api.Reply{}) || why != api.ErrNil {
			t.Errorf("Do(%+v) of none = %+v, error %d", e, r, why)
		}
	}
	for _, n := range []int{0, 1, api.MaxLines, api.MaxLines + 1} {
		if l, why := s.Play(holds(n)); len(l) != 0 || why != api.ErrNil {
			t.Errorf("Play of %d of none: %d replies, error %d", n, len(l), why)
		}
	}
	if l, why := s.Play(nil); len(l) != 0 || why != api.ErrNil {
		t.Errorf("Play of nil of none: %v, error %d", l, why)
	}
	if look(s) != (state{}) || s.Fork() != nil {
		t.Errorf("none stands as %+v, its fork is %v", look(s), s.Fork())
	}
}

func holds(n int) []api.Entry { return slices.Repeat([]api.Entry{{Op: api.OpHold}}, n) }

// long is a script of n entries of all kinds.
func long(n int) []api.Entry {
	var list []api.Entry
	for i := range n {
		list = append(list, [...]api.Entry{
			setEntry(api.OpRaise, api.Flags(i)&api.AllFlags), setEntry(api.OpTest, api.AllFlags), {Op: 77}, setEntry(api.OpClear, api.Flags(i/3)&api.AllFlags), callOf(api.FuncLog, 0, 0, i%3), {Op: api.OpHold}, callOf(api.FuncExp2, one, 0, 0),
		}[i%7])
	}
	return list
}

// 29.1: Play and Run of nothing, of one, of as many as there may be.
func TestPlayAndRun(t *testing.T) {
	for _, l := range [][]api.Entry{nil, {}, {{Op: api.OpHold}}, {{}}, {callOf(api.FuncLog, 0, 0, 0)}, {setEntry(api.OpRaise, api.Inexact)}, long(50), long(api.MaxLines - 1), long(api.MaxLines), holds(api.MaxLines)} {
		one := session.New()
		var want []api.Reply
		for _, e := range l {
			want = append(want, do(t, one, e))
		}
		s := session.New()
		if r := play(t, s, l); !slices.Equal(r, want) || look(s) != look(one) {
			t.Errorf("Play of %d differs from Do: %+v, %+v", len(l), look(s), look(one))
		}
		r, stand, why := session.Run(l)
		if !slices.Equal(r, want) || stand != one.Flags() || why != api.OK {
			t.Errorf("Run of %d differs from Do: flags %d, error %d", len(l), stand, why)
		}
	}
}

// 29.1: one more than there may be: nothing is done, whatever they are.
func TestTooMany(t *testing.T) {
	for _, l := range [][]api.Entry{holds(api.MaxLines + 1), long(api.MaxLines + 1), make([]api.Entry, api.MaxLines+1), long(2 * api.MaxLines), slices.Repeat([]api.Entry{setEntry(api.OpRaise, api.AllFlags)}, api.MaxLines+1)} {
		s := standing(t, api.Inexact, api.MathDomain)
		was := look(s)
		if r, why := s.Play(l); len(r) != 0 || why != api.ErrMany || look(s) != was {
			t.Errorf("Play of %d: %d replies, error %d, then %+v", len(l), len(r), why, look(s))
		}
		if r, stand, why := session.Run(l); len(r) != 0 || stand != 0 || why != api.ErrMany {
			t.Errorf("Run of %d: %d replies, flags %d, error %d", len(l), len(r), stand, why)
		}
	}
}

// 29.1: Run does not see what another session, or an earlier run, raised.
func TestRunIsNew(t *testing.T) {
	s := session.New()
	do(t, s, setEntry(api.OpRaise, api.AllFlags))
	for range 3 {
		r, stand, why := session.Run([]api.Entry{setEntry(api.OpTest, api.AllFlags), setEntry(api.OpRaise, api.Overflow)})
		if why != api.OK || !slices.Equal(r, []api.Reply{{}, {}}) || stand != api.Overflow {
			t.Errorf("Run: %+v, flags %d, error %d", r, stand, why)
		}
	}
}

// 29.2: errno stays though flags are cleared or held, and is told anew by what is raised.
func TestMathOfTheEnvironment(t *testing.T) {
	s := session.New()
	for i, c := range []struct {
		e    api.Entry
		want api.MathErr
	}{
		{callOf(api.FuncExp, one, 0, 0), api.MathNone},
		{callOf(api.FuncLog, 0, 0, 0), api.MathRange},
		{setEntry(api.OpClear, api.AllFlags), api.MathRange},
		{api.Entry{Op: api.OpHold}, api.MathRange},
		{callOf(api.FuncExp, one, 0, 0), api.MathRange},
		{setEntry(api.OpRaise, 0), api.MathRange},
		{callOf(api.FuncLog, one|sign, 0, 0), api.MathDomain},
		{setEntry(api.OpRaise, api.Inexact), api.MathDomain},
		{api.Entry{Op: api.OpHold}, api.MathDomain},
		{setEntry(api.OpTest, api.Overflow), api.MathDomain},
		{api.Entry{Op: api.OpRaise, X: 32 + 4}, api.MathDomain},
		{setEntry(api.OpRaise, api.Underflow), api.MathRange},
		{setEntry(api.OpRaise, api.AllFlags), api.MathDomain},
		{callOf(api.FuncExp, most, 0, 2), api.MathRange},
		{callOf(api.FuncSin, signal, 0, 2), api.MathDomain},
		{callOf(api.FuncSin, nan, 0, 2), api.MathDomain},
	} {
		do(t, s, c.e)
		if s.Math() != c.want {
			t.Errorf("behind entry %d errno tells %d, want %d", i, s.Math(), c.want)
		}
	}
}

// The chapter's examples.
func TestExamples(t *testing.T) {
	script := []api.Entry{callOf(api.FuncExp, one, 0, 0), setEntry(api.OpTest, api.Inexact), {Op: api.OpHold}, setEntry(api.OpTest, api.Inexact)}
	r, stand, why := session.Run(script)
	want := []api.Reply{{Result: api.Result{Bits: 0x4005bf0a8b145769, Flags: api.Inexact}}, {Flags: api.Inexact}, {Flags: api.Inexact}, {}}
	if !slices.Equal(r, want) || stand != 0 || why != api.OK {
		t.Errorf("%+v, flags %d, error %d", r, stand, why)
	}
	if e := do(t, session.New(), api.Entry{Op: 99}); e != (api.Reply{Bad: true}) {
		t.Errorf("Do(Op 99) = %+v", e)
	}
	s := session.New()
	do(t, s, callOf(api.FuncLog, 0, 0, 0))
	if s.Math() != api.MathRange {
		t.Error("Math behind a pole:", s.Math())
	}
	refusedAt(t, "hold\nhold", api.ErrScript, 2)
	refusedAt(t, "call fly 0 ..", api.ErrScript, 1)
}
