package fixed_test

import (
	"reflect"
	"slices"
	"testing"

	"ulp/api"
	"ulp/dyad"
	"ulp/fixed"
	"ulp/ival"
	"ulp/nat"
	"ulp/probe"
)

const all = uint64(1<<64 - 1)

func expect(t *testing.T, what string, got, want api.Nat) {
	t.Helper()
	if !slices.Equal(got, want) {
		t.Errorf("%s = %v, want %v", what, got, want)
	}
}

func TestReckon(t *testing.T) {
	expect(t, "One(0)", fixed.One(0), api.Nat{1})
	expect(t, "One(130)", fixed.One(130), api.Nat{0, 0, 4})
	expect(t, "Plus", fixed.Plus(api.Nat{all}, api.Nat{1}), api.Nat{0, 1})
	expect(t, "Less", fixed.Less(api.Nat{0, 1}, api.Nat{1}), api.Nat{all})
	expect(t, "Less of two alike", fixed.Less(api.Nat{7}, api.Nat{7}), nil)
	expect(t, "Times", fixed.Times(api.Nat{all}, api.Nat{all}), api.Nat{1, all - 1})
	expect(t, "Over", fixed.Over(api.Nat{0, 1}, api.Nat{3}), api.Nat{6148914691236517205})
	expect(t, "Over more", fixed.Over(api.Nat{2}, api.Nat{3}), nil)
}

func TestShift(t *testing.T) {
	for _, c := range []struct {
		a        api.Nat
		n        int
		down, up api.Nat
	}{
		{nil, 5, nil, nil}, {nil, -5, nil, nil}, {api.Nat{5}, 0, api.Nat{5}, api.Nat{5}}, {api.Nat{5}, 65, api.Nat{0, 10}, api.Nat{0, 10}},
		{api.Nat{12}, -2, api.Nat{3}, api.Nat{3}}, {api.Nat{13}, -2, api.Nat{3}, api.Nat{4}}, {api.Nat{15}, -2, api.Nat{3}, api.Nat{4}},
		{api.Nat{1}, -1, nil, api.Nat{1}}, {api.Nat{1}, -1000, nil, api.Nat{1}}, {api.Nat{all, all}, -64, api.Nat{all}, api.Nat{0, 1}}, {api.Nat{0, 7}, -64, api.Nat{7}, api.Nat{7}},
	} {
		expect(t, "Shift", fixed.Shift(c.a, c.n), c.down)
		expect(t, "ShiftUp", fixed.ShiftUp(c.a, c.n), c.up)
	}
}

func TestSpans(t *testing.T) {
	s := fixed.Span{Lo: api.Nat{5}, Hi: api.Nat{9}, Exp: -3}
	if got := s.Times(fixed.Span{Lo: api.Nat{2}, Hi: api.Nat{3}, Exp: 1}); !reflect.DeepEqual(got, fixed.Span{Lo: api.Nat{10}, Hi: api.Nat{27}, Exp: -2}) {
		t.Error("Times:", got)
	}
	for w, want := range map[int]fixed.Span{
		5: s, 4: s, 3: {Lo: api.Nat{2}, Hi: api.Nat{5}, Exp: -2}, 2: {Lo: api.Nat{1}, Hi: api.Nat{3}, Exp: -1}, 1: {Hi: api.Nat{2}},
	} {
		if got := s.Cut(w); !reflect.DeepEqual(got, want) {
			t.Errorf("Cut(%d) = %v, want %v", w, got, want)
		}
	}
	if got := (fixed.Span{Exp: 7}).Cut(3); len(got.Lo) != 0 || len(got.Hi) != 0 {
		t.Error("0, cut:", got)
	}
}

// What is cut has all in it that was there, and few bits.
func TestCutOutward(t *testing.T) {
	s := probe.Source(1)
	for range 300 {
		lo := s.Natural(1 + s.Below(4))
		was := fixed.Span{Lo: lo, Hi: fixed.Plus(lo, s.Natural(s.Below(3))), Exp: s.Below(100) - 50}
		w := 1 + s.Below(300)
		now := was.Cut(w)
		inner, _ := was.Ival()
		outer, why := now.Ival()
		if why != api.OK || !ival.Within(inner, outer) {
			t.Errorf("%v, cut to %d bits: %v", was, w, now)
		}
		if n, _ := nat.Len(now.Hi); n > w+1 {
			t.Errorf("%v, cut to %d bits, has %d", was, w, n)
		}
	}
}

func TestIval(t *testing.T) {
	s := fixed.Span{Lo: api.Nat{4}, Hi: api.Nat{12}, Exp: -2}
	v, why := s.Ival()
	if want := (api.Ival{Lo: dyad.Int(1), Hi: dyad.Int(3)}); why != api.OK || !reflect.DeepEqual(v, want) {
		t.Errorf("Ival = %v, error %d", v, why)
	}
	if !probe.Apart([]api.Nat{v.Lo.Abs, v.Hi.Abs}, s.Lo, s.Hi) {
		t.Error("the interval shares memory with the span")
	}
}
