package libm_test

import (
	"slices"
	"testing"

	"ulp/api"
	"ulp/bits"
	"ulp/libm"
	"ulp/probe"
)

func isNaN(x uint64) bool { return bits.Abs(x) > inf }

func isFinite(x uint64) bool { return bits.Abs(x) < inf }

func isQuiet(x uint64) bool { return bits.Class(x) == api.ClassQuiet }

func isSignal(x uint64) bool { return bits.Class(x) == api.ClassSignal }

// each are all pairs of words for a function of two arguments, and for one of one each word; more are pairs without a pattern.
func each(f api.Func, more int) [][2]uint64 {
	var list [][2]uint64
	for _, x := range words() {
		if !isTwo(f) {
			list = append(list, [2]uint64{x, 0})
			continue
		}
		for _, y := range words() {
			list = append(list, [2]uint64{x, y})
		}
	}
	s := probe.Source(uint64(f))
	for range more {
		list = append(list, [2]uint64{s.Word(), s.Word()}, [2]uint64{word(s.Float(s.Below(12) - 6)), word(s.Float(s.Below(12) - 6))})
	}
	return list
}

// wrongFlags tells in a few words what is wrong with the exceptions of a result, "" if nothing is.
func wrongFlags(r api.Result, given []uint64) string {
	none, infinite := isNaN(r.Bits), bits.Abs(r.Bits) == inf
	invalid := none && (!slices.ContainsFunc(given, isQuiet) || slices.ContainsFunc(given, isSignal))
	allFinite := !slices.ContainsFunc(given, func(x uint64) bool { return !isFinite(x) })
	pole := infinite && allFinite && r.Flags&(api.Overflow|api.Inexact) == 0
	together := []api.Flags{0, api.Invalid, api.DivByZero, api.Inexact, over, under}
	switch {
	case none && r.Bits != nan:
		return "no number is told in another way"
	case r.Flags&api.Invalid != 0 != invalid:
		return "Invalid"
	case r.Flags&api.DivByZero != 0 != pole:
		return "DivByZero"
	case !slices.Contains(together, r.Flags):
		return "what goes together"
	case r.Flags&api.Overflow != 0 && (!infinite || !allFinite):
		return "Overflow"
	case r.Flags&api.Underflow != 0 && bits.Abs(r.Bits) > 1<<52:
		return "Underflow"
	}
	return ""
}

// 27.5, 27.6, 27.7
func TestExceptionsAndStages(t *testing.T) {
	seen := map[api.Flags]int{}
	for _, f := range every() {
		for i, a := range each(f, 30) {
			given := a[:libm.Args(f)]
			r, why := libm.Call(f, a[0], a[1], 0)
			if wrong := wrongFlags(r, given); why != api.OK || wrong != "" {
				t.Errorf("Call(%s, %x) = %x, flags %d, error %d: %s", libm.Name(f), given, r.Bits, r.Flags, why, wrong)
			}
			seen[r.Flags]++
			if isTwo(f) && i%4 > 0 {
				continue
			}
			for _, stage := range []int{1, 2} {
				if later, why := libm.Call(f, a[0], a[1], stage); later != r || why != api.OK {
					t.Errorf("Call(%s, %x) at stage %d = %v, error %d; at 0 %v", libm.Name(f), given, stage, later, why, r)
				}
			}
		}
	}
	for _, f := range []api.Flags{0, api.Invalid, api.DivByZero, api.Inexact, over, under} {
		if seen[f] < 30 {
			t.Errorf("flags %d: only %d", f, seen[f])
		}
	}
}

// 27.6: signalling arguments are told in each place, whatever stands beside them; quiet ones alone never.
func TestSignals(t *testing.T) {
	for _, f := range every() {
		for _, x := range signalling {
			for _, y := range words() {
				is(t, row{f, x, y, nan, api.Invalid})
				if isTwo(f) {
					is(t, row{f, y, x, nan, api.Invalid})
				}
			}
		}
		for _, x := range quiet {
			for _, y := range quiet {
				is(t, row{f, x, y, nan, 0})
			}
		}
	}
}

// 27.8: y of a function of one argument, what is no number and signalling too.
func TestOneArgument(t *testing.T) {
	others := slices.Concat([]uint64{sign, 1, one, most, inf, inf | sign, word(0.5)}, quiet, signalling)
	for _, f := range every() {
		if isTwo(f) {
			continue
		}
		for i, x := range words() {
			r, why := libm.Call(f, x, 0, 0)
			y := others[i%len(others)]
			for _, y := range []uint64{y, others[len(others)-1]} {
				if other, whyToo := libm.Call(f, x, y, 0); other != r || whyToo != why {
					t.Errorf("Call(%s, %x) hangs on y %x: %v, %v", libm.Name(f), x, y, r, other)
				}
			}
			l, _ := libm.All(f, []uint64{x}, y)
			if !slices.Equal(l, []api.Result{r}) {
				t.Errorf("All(%s, %x) hangs on y %x", libm.Name(f), x, y)
			}
		}
	}
}

// 27.9
func TestAllAsOneAfterAnother(t *testing.T) {
	list := words()
	for _, f := range every() {
		for _, y := range []uint64{0, word(-2.5), word(3), inf | sign, nan, signalling[2]} {
			l, why := libm.All(f, list, y)
			if why != api.OK || len(l) != len(list) {
				t.Fatalf("All(%s): %d results, error %d", libm.Name(f), len(l), why)
			}
			for i, x := range list {
				if r, _ := libm.Call(f, x, y, 0); l[i] != r {
					t.Errorf("All(%s, %x, %x) = %v, Call %v", libm.Name(f), x, y, l[i], r)
				}
			}
			if !isTwo(f) {
				break
			}
		}
	}
}
