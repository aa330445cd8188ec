package flags_test

import (
	"testing"

	"ulp/api"
	"ulp/flags"
)

// state is what an environment has.
type state struct {
	flags api.Flags
	math  api.MathErr
}

func look(t *testing.T, e *flags.Env) state {
	t.Helper()
	f, why := e.Test(all)
	if why != api.OK {
		t.Fatalf("Test of all flags: error %d", why)
	}
	return state{f, e.Math()}
}

// envOf is an environment that has what the state says.
func envOf(t *testing.T, s state) *flags.Env {
	t.Helper()
	e := flags.New()
	if s.math != api.MathNone {
		e.Raise([...]api.Flags{api.MathDomain: invalid, api.MathRange: overflow}[s.math])
	}
	e.Set(s.flags)
	if got := look(t, e); got != s {
		t.Fatalf("made %+v, want %+v", got, s)
	}
	return e
}

func everyState() []state {
	var list []state
	for f := range all + 1 {
		for m := range api.MathCount {
			list = append(list, state{f, m})
		}
	}
	return list
}

// after is what the chapter says of a step: what it answers, and what there is then.
func after(s state, step api.EnvStep) (state, api.Flags, api.Errno) {
	f := step.Flags
	asks := step.Kind != api.EnvHold && step.Kind != api.EnvForget
	if step.Kind == api.EnvNone || step.Kind >= api.EnvCount {
		return s, 0, api.ErrRange
	}
	if asks && f > all {
		return s, 0, api.ErrFlags
	}
	old := s.flags
	switch step.Kind {
	case api.EnvRaise:
		if m := mathOf(f); m != api.MathNone {
			s.math = m
		}
		s.flags |= f
	case api.EnvTest:
		return s, old & f, api.OK
	case api.EnvClear:
		s.flags &^= f
	case api.EnvHold:
		s.flags = 0
		return s, old, api.OK
	case api.EnvSet:
		s.flags = f
	case api.EnvUpdate:
		s.flags |= f
	case api.EnvForget:
		s.math = api.MathNone
	}
	return s, 0, api.OK
}

// call does a step by the method of its kind.
func call(e *flags.Env, step api.EnvStep) (api.Flags, api.Errno) {
	switch step.Kind {
	case api.EnvRaise:
		return 0, e.Raise(step.Flags)
	case api.EnvTest:
		return e.Test(step.Flags)
	case api.EnvClear:
		return 0, e.Clear(step.Flags)
	case api.EnvHold:
		return e.Hold()
	case api.EnvSet:
		return 0, e.Set(step.Flags)
	case api.EnvUpdate:
		return 0, e.Update(step.Flags)
	}
	e.Forget()
	return 0, api.OK
}

// P2.3, P2.4, P2.5, P2.6: every step in every state, with all flags, right and wrong ones.
func TestEveryStep(t *testing.T) {
	for _, s := range everyState() {
		for kind := api.EnvRaise; kind < api.EnvCount; kind++ {
			for _, f := range everyByte() {
				step := api.EnvStep{Kind: kind, Flags: f}
				want, wantFlags, wantWhy := after(s, step)
				called, done := envOf(t, s), envOf(t, s)
				if got, why := call(called, step); got != wantFlags || why != wantWhy || look(t, called) != want {
					t.Fatalf("%+v, called %+v: %d, %d, then %+v, want %d, %d, %+v", s, step, got, why, look(t, called), wantFlags, wantWhy, want)
				}
				if got, why := done.Do(step); got != wantFlags || why != wantWhy || look(t, done) != want {
					t.Fatalf("%+v, Do(%+v): %d, %d, then %+v, want %d, %d, %+v", s, step, got, why, look(t, done), wantFlags, wantWhy, want)
				}
			}
		}
	}
}

// P2.6: what is no kind changes nothing.
func TestDoRefusesWhatIsNoKind(t *testing.T) {
	for _, kind := range []api.EnvKind{api.EnvNone, api.EnvCount, api.EnvCount + 1, 100, 255} {
		for _, f := range []api.Flags{0, inexact, all, 32, 255} {
			s := state{overflow | inexact, api.MathRange}
			e := envOf(t, s)
			if got, why := e.Do(api.EnvStep{Kind: kind, Flags: f}); got != 0 || why != api.ErrRange || look(t, e) != s {
				t.Errorf("Do of kind %d: %d, %d, then %+v", kind, got, why, look(t, e))
			}
		}
	}
}

// P2.5
func TestNew(t *testing.T) {
	if got := look(t, flags.New()); got != (state{}) {
		t.Errorf("New has %+v", got)
	}
	a, b := flags.New(), flags.New()
	a.Raise(all)
	if got := look(t, b); got != (state{}) {
		t.Errorf("another one raised, and this one has %+v", got)
	}
}

// P2.5
func TestCopiesGoTheirOwnWay(t *testing.T) {
	for _, s := range everyState() {
		e := envOf(t, s)
		c := e.Copy()
		if got := look(t, c); got != s {
			t.Errorf("the copy of %+v has %+v", s, got)
		}
		e.Hold()
		e.Raise(overflow)
		if got := look(t, c); got != s {
			t.Errorf("%+v: the copy changed with the first to %+v", s, got)
		}
		c.Set(inexact)
		c.Forget()
		if got := look(t, e); got != (state{overflow, api.MathRange}) {
			t.Errorf("%+v: the first changed with the copy to %+v", s, got)
		}
	}
}

// P2.6
func TestNilEnvironment(t *testing.T) {
	var e *flags.Env
	for _, f := range []api.Flags{0, inexact, all, 32, 255} {
		for i := range 256 {
			kind := api.EnvKind(i)
			step := api.EnvStep{Kind: kind, Flags: f}
			if got, why := e.Do(step); got != 0 || why != api.ErrNil {
				t.Errorf("Do(%+v) = %d, %d", step, got, why)
			}
			if kind == api.EnvNone || kind >= api.EnvForget {
				continue
			}
			if got, why := call(e, step); got != 0 || why != api.ErrNil {
				t.Errorf("call of %+v = %d, %d", step, got, why)
			}
		}
	}
	e.Forget()
	if e.Copy() != nil || e.Math() != api.MathNone {
		t.Error("Copy or Math of none")
	}
}

// P2.3, P2.5: the chapter's second example.
func TestErrnoStaysTillForgotten(t *testing.T) {
	e := flags.New()
	for i, c := range []struct {
		do   func(api.Flags) api.Errno
		f    api.Flags
		want api.MathErr
	}{
		{e.Raise, overflow | inexact, api.MathRange},
		{e.Raise, inexact, api.MathRange},
		{e.Raise, 0, api.MathRange},
		{e.Raise, invalid, api.MathDomain},
		{e.Clear, all, api.MathDomain},
		{e.Set, overflow, api.MathDomain},
		{e.Update, underflow, api.MathDomain},
		{e.Raise, underflow, api.MathRange},
	} {
		if why := c.do(c.f); why != api.OK || e.Math() != c.want {
			t.Errorf("step %d: error %d, Math() = %d, want %d", i, why, e.Math(), c.want)
		}
	}
	e.Forget()
	if got := look(t, e); got != (state{overflow | underflow, api.MathNone}) {
		t.Errorf("forgotten: %+v", got)
	}
}

// P2.9: after any steps there is what was raised since it was cleared last.
func TestSticky(t *testing.T) {
	e := flags.New()
	raised, cleared := [5]int{}, [5]int{}
	random := uint32(1)
	for now := 1; now < 20000; now++ {
		random = random*1664525 + 1013904223
		f := api.Flags(random>>24) & all
		clears := random>>20&3 == 0
		for i := range raised {
			if f>>i&1 == 0 {
				continue
			}
			if clears {
				cleared[i] = now
			} else {
				raised[i] = now
			}
		}
		if clears {
			e.Clear(f)
		} else {
			e.Raise(f)
		}
		var want api.Flags
		for i := range raised {
			if raised[i] > cleared[i] {
				want |= 1 << i
			}
		}
		if got := look(t, e).flags; got != want {
			t.Fatalf("after %d steps: %d, want %d", now, got, want)
		}
	}
}

// P2.10
func TestHeldAndUpdated(t *testing.T) {
	for before := range all + 1 {
		for between := range all + 1 {
			e := flags.New()
			e.Raise(before)
			held, why := e.Hold()
			if held != before || why != api.OK || look(t, e).flags != 0 {
				t.Errorf("Hold of %d: %d, %d, then %d", before, held, why, look(t, e).flags)
			}
			e.Raise(between)
			if why := e.Update(held); why != api.OK || look(t, e).flags != before|between {
				t.Errorf("held %d, raised %d, updated: %d, then %d", before, between, why, look(t, e).flags)
			}
		}
	}
}
