package session_test

import (
	"slices"
	"testing"

	"ulp/api"
	"ulp/libm"
	"ulp/probe"
	"ulp/session"
)

// random is an entry of any kind, right or not: often a call that raises something.
func random(s *probe.Source) api.Entry {
	x := s.Word()
	switch s.Below(8) {
	case 0:
		return setEntry(api.OpTest, api.Flags(x>>40)&api.AllFlags)
	case 1:
		return setEntry(api.OpClear, api.Flags(x>>40)&api.AllFlags)
	case 2:
		return setEntry(api.OpRaise, 1<<s.Below(5))
	case 3:
		if s.Below(4) == 0 {
			return api.Entry{Op: api.OpHold, X: x}
		}
		return setEntry(api.OpClear, 1<<s.Below(5))
	case 4:
		return api.Entry{Op: api.OpKind(s.Below(9)), Func: api.Func(s.Below(45)), Stage: s.Below(6) - 1, X: x >> s.Below(64), Y: x}
	default:
		a := arguments[s.Below(len(arguments))]
		return callOf(api.FuncExp+api.Func(s.Below(int(api.FuncCount)-1)), a[0], a[1], s.Below(3))
	}
}

func randoms(seed uint64, n int) []api.Entry {
	s := probe.Source(seed)
	list := make([]api.Entry, n)
	for i := range list {
		list[i] = random(&s)
	}
	return list
}

// 29.5: behind any run of entries those flags stand that were raised later than they were cleared.
func TestSticky(t *testing.T) {
	s := session.New()
	var raised, cleared [5]int
	mark := func(when *[5]int, f api.Flags, now int) {
		for i := range when {
			if f>>i&1 != 0 {
				when[i] = now
			}
		}
	}
	seen := map[api.Flags]bool{}
	for now, e := range randoms(1, 20000) {
		var before api.Flags
		for i := range raised {
			if raised[i] > cleared[i] {
				before |= 1 << i
			}
		}
		seen[before] = true
		if s.Flags() != before {
			t.Fatalf("ahead of entry %d stand %d, want %d", now, s.Flags(), before)
		}
		r := do(t, s, e)
		switch {
		case r.Bad:
		case e.Op == api.OpCall:
			mark(&raised, r.Result.Flags, now+1)
		case e.Op == api.OpRaise:
			mark(&raised, api.Flags(e.X), now+1)
		case e.Op == api.OpClear:
			mark(&cleared, api.Flags(e.X), now+1)
		case e.Op == api.OpHold:
			mark(&cleared, api.AllFlags, now+1)
		}
		if told := map[api.OpKind]api.Flags{api.OpTest: before & api.Flags(e.X), api.OpHold: before}[e.Op]; !r.Bad && r.Flags != told {
			t.Fatalf("entry %d, %+v, tells %d of %d", now, e, r.Flags, before)
		}
	}
	if len(seen) != 32 {
		t.Errorf("%d sets stood", len(seen))
	}
}

// 29.6: whatever stands, whatever the stage, a call answers as libm does.
func TestCallsAsTheyAre(t *testing.T) {
	for i, begin := range starts(t) {
		for f := api.FuncExp; f < api.FuncCount; f++ {
			a := arguments[(i+int(f))%len(arguments)]
			want, why := libm.Call(f, a[0], a[1], 0)
			for stage := range 3 {
				if r := do(t, begin.Fork(), callOf(f, a[0], a[1], stage)); r != (api.Reply{Result: want, Why: why}) {
					t.Errorf("%+v, call %s %x at stage %d: %+v, libm %+v", look(begin), libm.Name(f), a, stage, r, want)
				}
			}
		}
	}
}

// 29.7
func TestRefusedChangesNothing(t *testing.T) {
	s := session.New()
	refused := 0
	for _, e := range randoms(7, 5000) {
		was := look(s)
		r := do(t, s, e)
		if r.Bad {
			refused++
		}
		if r.Bad && (look(s) != was || r != api.Reply{Bad: true}) || !r.Bad && s.Done() != was.done+1 {
			t.Fatalf("%+v: %+v, from %+v to %+v", e, r, was, look(s))
		}
	}
	if refused < 100 {
		t.Errorf("%d refused", refused)
	}
}

// 29.9: a script in two parts, wherever it is cut, on one session or on a fork of it.
func TestInParts(t *testing.T) {
	for seed := range uint64(12) {
		l := randoms(seed, 120)
		whole := session.New()
		want := play(t, whole, l)
		for cut := 0; cut <= len(l); cut += 5 {
			s := session.New()
			first := play(t, s, l[:cut])
			fork := s.Fork()
			if look(fork) != look(s) {
				t.Fatalf("a fork stands as %+v, its session as %+v", look(fork), look(s))
			}
			second := play(t, s, l[cut:])
			if !slices.Equal(slices.Concat(first, second), want) || look(s) != look(whole) {
				t.Errorf("script %d, cut at %d, parts from the whole", seed, cut)
			}
			if other := play(t, fork, l[cut:]); !slices.Equal(other, second) || look(fork) != look(whole) {
				t.Errorf("script %d, forked at %d, parts from its session", seed, cut)
			}
		}
		r, stand, why := session.Run(l)
		if !slices.Equal(r, want) || stand != whole.Flags() || why != api.OK {
			t.Errorf("script %d: Run parts from Play", seed)
		}
	}
}

// 29.2: a session and its fork, and forks of forks, go their own ways.
func TestForksGoTheirOwnWay(t *testing.T) {
	for _, s := range starts(t) {
		was := look(s)
		fork := s.Fork()
		again := fork.Fork()
		if fork == s || again == fork || look(fork) != was || look(again) != was {
			t.Fatalf("%+v: the fork stands as %+v, its fork as %+v", was, look(fork), look(again))
		}
		do(t, fork, api.Entry{Op: api.OpHold})
		do(t, fork, setEntry(api.OpRaise, api.Overflow))
		if look(s) != was || look(again) != was || look(fork) != (state{api.Overflow, api.MathRange, was.done + 2}) {
			t.Errorf("%+v: its fork did something: %+v, fork %+v, fork of the fork %+v", was, look(s), look(fork), look(again))
		}
		do(t, s, setEntry(api.OpRaise, api.Invalid))
		if look(s) != was.raise(api.Invalid) || look(again) != was || look(fork) != (state{api.Overflow, api.MathRange, was.done + 2}) {
			t.Errorf("%+v: it did something: %+v, fork %+v, fork of the fork %+v", was, look(s), look(fork), look(again))
		}
	}
}

// P3, P4: the same calls have the same answers, whatever other sessions do between.
func TestNothingBetween(t *testing.T) {
	l := randoms(3, 400)
	text, _ := session.Print(every())
	alone := play(t, session.New(), l)
	s, other := session.New(), session.New()
	noise := randoms(4, 400)
	for i, e := range l {
		do(t, other, noise[i])
		if i%50 == 0 {
			session.Run(noise)
			session.Parse("fly\n")
			readAs(t, text, every())
		}
		if r := do(t, s, e); r != alone[i] {
			t.Fatalf("entry %d answers %+v, alone %+v", i, r, alone[i])
		}
	}
}

// 29.4: what is handed in stays, also behind its end, and is not kept; answers have memory of their own.
func TestNewMemory(t *testing.T) {
	room := append(randoms(8, 60), api.Entry{Op: 200}, api.Entry{Op: 201})
	l := room[:60]
	before := slices.Clone(room)
	s := session.New()
	first := play(t, s, l)
	kept := slices.Clone(first)
	second, _, _ := session.Run(l)
	third, _, _ := session.Run(l)
	for _, list := range [][]api.Reply{second, third} {
		list = list[:cap(list)]
		for i := range list {
			list[i] = api.Reply{Bad: true, Why: 99}
		}
		if !slices.Equal(first, kept) {
			t.Fatal("two answers share memory")
		}
	}
	session.Print(l)
	if !slices.Equal(room, before) {
		t.Error("what was handed in was changed")
	}
	was := look(s)
	clear(room)
	if look(s) != was {
		t.Error("what was handed in was kept")
	}
	text, _ := session.Print(every())
	one, _, _ := session.Parse(text)
	other, _, _ := session.Parse(text)
	clear(one[:cap(one)])
	if !slices.Equal(other, every()) {
		t.Error("two scripts share memory")
	}
}
