package round_test

import (
	"math/big"
	"slices"
	"testing"

	"ulp/api"
	"ulp/bits"
	"ulp/dyad"
	"ulp/probe"
	"ulp/round"
)

// 5.6
func TestOnce(t *testing.T) {
	for _, x := range probe.Floats() {
		want := api.Result{Bits: x}
		if x == minus {
			want.Bits = 0
		}
		if got, why := round.Near(from(t, x)); why != api.OK || got != want {
			t.Errorf("Near of %x = %x, error %d", x, got, why)
		}
	}
}

// away is how far a number lies from a finite binary64.
func away(t *testing.T, d api.Dyad, x uint64) *big.Rat {
	r := new(big.Rat).Sub(exactly(d), exactly(from(t, x)))
	return r.Abs(r)
}

// 5.7
func TestNoNearer(t *testing.T) {
	for _, d := range edges(t) {
		got, _ := round.Near(d)
		if bits.Abs(got.Bits) == infinity {
			continue
		}
		for _, next := range []uint64{bits.Up(got.Bits), bits.Down(got.Bits)} {
			if bits.Abs(next) != infinity && away(t, d, next).Cmp(away(t, d, got.Bits)) < 0 {
				t.Errorf("Near(%v) = %x, but %x is nearer", d, got.Bits, next)
			}
		}
	}
}

// 5.8
func TestMonotone(t *testing.T) {
	list := edges(t)
	slices.SortFunc(list, func(a, b api.Dyad) int {
		order, _ := dyad.Cmp(a, b)
		return order
	})
	last := infinity | minus
	for _, d := range list {
		got, _ := round.Near(d)
		if bits.Less(got.Bits, last) {
			t.Errorf("Near(%v) = %x lies below %x", d, got.Bits, last)
		}
		last = got.Bits
	}
}

// 5.9
func TestPoints(t *testing.T) {
	for _, x := range probe.Floats() {
		point := mid(t, x)
		next := bits.Up(x)
		if x == minus { // what is just above 0 has the sign of what lies there
			x = 0
		}
		even := x
		if x&1 != 0 {
			even = next
		}
		got, _ := round.Near(point)
		if got.Bits != even || got.Flags&api.Inexact == 0 {
			t.Errorf("Near of the Mid of %x = %x, want %x", x, got, even)
		}
		for _, h := range hairs() {
			below, _ := round.Near(sum(t, point, less(h)))
			above, _ := round.Near(sum(t, point, h))
			if below.Bits != x || above.Bits != next {
				t.Errorf("Near beside the Mid of %x = %x, %x", x, below.Bits, above.Bits)
			}
		}
	}
}

// between are some numbers from Lo to Hi, both with them.
func between(t *testing.T, v api.Ival) []api.Dyad {
	list := []api.Dyad{v.Lo, v.Hi}
	for _, n := range []uint64{1, 7, 100, 128, 200, 255} { // in 256 parts
		low, _ := dyad.Mul(v.Lo, of(256-n, -8))
		high, _ := dyad.Mul(v.Hi, of(n, -8))
		list = append(list, sum(t, low, high))
	}
	return list
}

// 5.10
func TestWithin(t *testing.T) {
	count := 0
	for _, x := range probe.Floats() {
		point := from(t, x)
		for _, lean := range []api.Dyad{of(1, -1077), of(1, -1090), of(1<<20+1, -1095)} {
			start := sum(t, point, lean)
			v := api.Ival{Lo: sum(t, start, less(of(1, -1100))), Hi: sum(t, start, of(1, -1100))}
			wide, why := round.Wide(v, 60)
			if why != api.OK {
				t.Fatal("Wide: error", why)
			}
			got, is, _ := round.Decide(wide)
			if !is {
				continue
			}
			count++
			checkWithin(t, wide, v, got)
		}
	}
	if count < 100 {
		t.Error("few are decided:", count)
	}
}

// checkWithin: what is told of an enclosure holds for all numbers in it, and for a narrower one.
func checkWithin(t *testing.T, wide, v api.Ival, got api.Result) {
	t.Helper()
	for _, d := range between(t, wide) {
		if _, own := dyad.To(d); own {
			continue
		}
		if each, _ := round.Near(d); each != got {
			t.Errorf("Decide(%v) = %x, but Near(%v) = %x", wide, got, d, each)
		}
	}
	if narrow, is, _ := round.Decide(v); !is || narrow != got {
		t.Errorf("decided widened: %x; as it is: %x, %v", got, narrow, is)
	}
}

func TestExamples(t *testing.T) {
	under := api.Underflow | api.Inexact
	for _, c := range []struct {
		d    api.Dyad
		want api.Result
	}{
		{of(1, -1075), api.Result{Flags: under}},
		{of(3, -1076), api.Result{Bits: 1, Flags: under}},
		{sum(t, of(1, 1024), less(of(1, 970))), api.Result{Bits: infinity, Flags: api.Overflow | api.Inexact}},
		{sum(t, of(1, -1022), less(of(1, -1076))), api.Result{Bits: leastNorm, Flags: api.Inexact}},
		{sum(t, of(1, -1022), less(of(1, -1074))), api.Result{Bits: 0x000fffffffffffff}},
		{sum(t, of(1, 0), of(1, -53)), api.Result{Bits: one, Flags: api.Inexact}},
		{sum(t, of(1, 0), of(3, -54)), api.Result{Bits: one + 1, Flags: api.Inexact}},
		{less(of(1, -2000)), api.Result{Bits: minus, Flags: under}},
	} {
		if got, why := round.Near(c.d); why != api.OK || got != c.want {
			t.Errorf("Near(%v) = %x, error %d, want %x", c.d, got, why, c.want)
		}
	}
	v := api.Ival{Lo: sum(t, of(1, 0), of(1, -60)), Hi: sum(t, of(1, 0), of(1, -55))}
	if got, is, why := round.Decide(v); got != (api.Result{Bits: one, Flags: api.Inexact}) || !is || why != api.OK {
		t.Errorf("Decide = %x, %v, error %d", got, is, why)
	}
	v = api.Ival{Lo: sum(t, of(1, 0), of(1, -55)), Hi: sum(t, of(1, 0), of(1, -52))}
	if got, is, why := round.Decide(v); got != (api.Result{}) || is || why != api.OK {
		t.Errorf("Decide = %x, %v, error %d", got, is, why)
	}
}
