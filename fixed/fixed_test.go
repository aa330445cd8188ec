package fixed_test

import (
	"reflect"
	"slices"
	"testing"

	"ulp/api"
	"ulp/dyad"
	"ulp/fixed"
	"ulp/probe"
)

const all = uint64(1<<64 - 1)

func expect(t *testing.T, what string, got, want api.Nat) {
	t.Helper()
	if !slices.Equal(got, want) {
		t.Errorf("%s = %v, want %v", what, got, want)
	}
}

func TestReckon(t *testing.T) {
	expect(t, "One(0)", fixed.One(0), api.Nat{1})
	expect(t, "One(130)", fixed.One(130), api.Nat{0, 0, 4})
	expect(t, "Plus", fixed.Plus(api.Nat{all}, api.Nat{1}), api.Nat{0, 1})
	expect(t, "Less", fixed.Less(api.Nat{0, 1}, api.Nat{1}), api.Nat{all})
	expect(t, "Less of two alike", fixed.Less(api.Nat{7}, api.Nat{7}), nil)
	expect(t, "Times", fixed.Times(api.Nat{all}, api.Nat{all}), api.Nat{1, all - 1})
	expect(t, "Over", fixed.Over(api.Nat{0, 1}, api.Nat{3}), api.Nat{6148914691236517205})
	expect(t, "Over more", fixed.Over(api.Nat{2}, api.Nat{3}), nil)
}

func TestShift(t *testing.T) {
	for _, c := range []struct {
		a        api.Nat
		n        int
		down, up api.Nat
	}{
		{nil, 5, nil, nil}, {nil, -5, nil, nil}, {api.Nat{5}, 0, api.Nat{5}, api.Nat{5}}, {api.Nat{5}, 65, api.Nat{0, 10}, api.Nat{0, 10}},
		{api.Nat{12}, -2, api.Nat{3}, api.Nat{3}}, {api.Nat{13}, -2, api.Nat{3}, api.Nat{4}}, {api.Nat{15}, -2, api.Nat{3}, api.Nat{4}},
		{api.Nat{1}, -1, nil, api.Nat{1}}, {api.Nat{1}, -1000, nil, api.Nat{1}}, {api.Nat{all, all}, -64, api.Nat{all}, api.Nat{0, 1}}, {api.Nat{0, 7}, -64, api.Nat{7}, api.Nat{7}},
	} {
		expect(t, "Shift", fixed.Shift(c.a, c.n), c.down)
		for _, exp := range []int{0, 3, -200} {
			x := fixed.Number{Abs: c.a, Exp: exp}
			expect(t, "Units, down", x.Units(c.n-exp, false), c.down)
			expect(t, "Units, up", x.Units(c.n-exp, true), c.up)
		}
	}
}

func TestSpans(t *testing.T) {
	s := fixed.Between(func(up bool) fixed.Number { return fixed.Number{Abs: api.Nat{13}, Exp: -2}.Cut(3, up) })
	want := fixed.Span{Lo: fixed.Number{Abs: api.Nat{6}, Exp: -1}, Hi: fixed.Number{Abs: api.Nat{7}, Exp: -1}}
	if !reflect.DeepEqual(s, want) || !reflect.DeepEqual(s, fixed.Units(api.Nat{6}, api.Nat{7}, 1)) {
		t.Error("Between:", s)
	}
	if !reflect.DeepEqual(s.End(false), want.Lo) || !reflect.DeepEqual(s.End(true), want.Hi) {
		t.Error("End:", s.End(false), s.End(true))
	}
}

func TestIval(t *testing.T) {
	s := fixed.Span{Lo: fixed.Number{Abs: api.Nat{4}, Exp: -2}, Hi: fixed.Number{Abs: api.Nat{24}, Exp: -3}}
	v, why := s.Ival()
	if want := (api.Ival{Lo: dyad.Int(1), Hi: dyad.Int(3)}); why != api.OK || !reflect.DeepEqual(v, want) {
		t.Errorf("Ival = %v, error %d", v, why)
	}
	if !probe.Apart([]api.Nat{v.Lo.Abs, v.Hi.Abs}, s.Lo.Abs, s.Hi.Abs) {
		t.Error("the interval shares memory with the span")
	}
	for _, exp := range []int{-api.MaxExp - 1, api.MaxExp + 1} {
		far := fixed.Span{Lo: fixed.Number{Abs: api.Nat{1}, Exp: exp}, Hi: fixed.Number{Abs: api.Nat{3}, Exp: exp}}
		if v, why := far.Ival(); why != api.ErrMany || !reflect.DeepEqual(v, api.Ival{}) {
			t.Errorf("exponent %d: %v, error %d", exp, v, why)
		}
	}
}
