package round_test

import (
	"encoding/binary"
	"math"
	"math/big"
	"slices"
	"testing"

	"ulp/api"
	"ulp/bits"
	"ulp/dyad"
	"ulp/probe"
	"ulp/round"
)

const (
	infinity  = uint64(0x7ff0000000000000)
	greatest  = uint64(0x7fefffffffffffff)
	leastNorm = uint64(0x0010000000000000)
	one       = uint64(0x3ff0000000000000)
	minus     = uint64(1) << 63
)

// exactly is a right number as a quotient.
func exactly(d api.Dyad) *big.Rat {
	var digits []byte
	for _, w := range slices.Backward(d.Abs) {
		digits = binary.BigEndian.AppendUint64(digits, w)
	}
	r := new(big.Rat).SetInt(new(big.Int).SetBytes(digits))
	if d.Neg {
		r.Neg(r)
	}
	return r.Mul(r, power2(d.Exp))
}

func power2(n int) *big.Rat {
	p := new(big.Rat).SetInt(new(big.Int).Lsh(big.NewInt(1), uint(max(n, -n))))
	if n < 0 {
		p.Inv(p)
	}
	return p
}

// isTiny rounds to 53 bits with exponents without bounds.
func isTiny(r *big.Rat) bool {
	f := new(big.Float).SetPrec(53).SetRat(r)
	return f.Sign() != 0 && f.Abs(f).Cmp(big.NewFloat(0x1p-1022)) < 0
}

// rounded is what Near has to tell of a number.
func rounded(d api.Dyad) api.Result {
	r := exactly(d)
	y, _ := r.Float64() // (whether it is exact, it does not tell rightly of what goes to 0)
	want := api.Result{Bits: math.Float64bits(y)}
	if !math.IsInf(y, 0) && new(big.Rat).SetFloat64(y).Cmp(r) == 0 {
		return want
	}
	want.Flags = api.Inexact
	if math.IsInf(y, 0) {
		want.Flags |= api.Overflow
	}
	if isTiny(r) {
		want.Flags |= api.Underflow
	}
	return want
}

func of(abs uint64, exp int) api.Dyad { return api.Dyad{Abs: api.Nat{abs}, Exp: exp} }

func less(d api.Dyad) api.Dyad {
	d.Neg = !d.Neg
	return d
}

// sum is that of numbers whose sum has room.
func sum(t *testing.T, list ...api.Dyad) api.Dyad {
	t.Helper()
	var d api.Dyad
	var why api.Errno
	for _, e := range list {
		if d, why = dyad.Add(d, e); why != api.OK {
			t.Fatal("a sum of this test has no room")
		}
	}
	return d
}

func from(t *testing.T, x uint64) api.Dyad { return made(t, dyad.From, x) }

func mid(t *testing.T, x uint64) api.Dyad { return made(t, round.Mid, x) }

// made is what a call makes of a finite binary64.
func made(t *testing.T, way func(uint64) (api.Dyad, api.Errno), x uint64) api.Dyad {
	t.Helper()
	d, why := way(x)
	if why != api.OK {
		t.Fatalf("nothing is made of %x: error %d", x, why)
	}
	return d
}

// hairs are what just parts a number from a point: from the last bit that a word has beside it to the least there is.
func hairs() []api.Dyad {
	return []api.Dyad{of(1, -1077), of(1, -1200), of(1, -api.MaxExp)}
}

// edges are what lies at the points of change, with what lies on either side, of either sign; and the binary64 numbers between.
func edges(t *testing.T) []api.Dyad {
	t.Helper()
	points := []api.Dyad{
		{}, of(1, -1074), of(1, -1075), of(1, -1076), of(3, -1076), of(3, -1075), of(5, -1075),
		of(1, -1022), of(1<<54-1, -1076), of(1<<53-1, -1075), of(1<<55-1, -1077), of(1<<52-1, -1074), of(1<<53-3, -1075),
		of(1, 0), of(1<<53+1, -53), of(1<<53+3, -53), of(1<<54+1, -54), of(1<<54+3, -54),
		of(1<<53-1, 971), of(1<<54-1, 970), of(1<<55-1, 969), of(1, 1024), of(3, 1023), of(1, api.MaxExp), of(1, -api.MaxExp),
	}
	for _, x := range []uint64{0, 1, 2, 0x000ffffffffffffe, 0x000fffffffffffff, leastNorm, leastNorm + 1, one - 1, one, one + 1, 0x4340000000000000, greatest - 1, greatest} {
		points = append(points, mid(t, x), from(t, x))
	}
	list := slices.Clone(points)
	for _, d := range points {
		for _, h := range hairs() {
			if more, why := dyad.Add(d, h); why == api.OK {
				list = append(list, more)
			}
			if fewer, why := dyad.Sub(d, h); why == api.OK {
				list = append(list, fewer)
			}
		}
	}
	for _, d := range slices.Clone(list) {
		list = append(list, less(d))
	}
	return list
}

// 5.1
func TestNear(t *testing.T) {
	list := slices.Concat(edges(t), probe.Numbers(), probe.GreatNumbers())
	s := probe.Source(5)
	for range 2000 {
		list = append(list, api.Dyad{Neg: s.Word()%2 == 0, Abs: s.Natural(1 + s.Below(3)), Exp: s.Below(2300) - 1200})
	}
	for _, d := range list {
		if got, why := round.Near(d); why != api.OK || got != rounded(d) {
			t.Errorf("Near(%v) = %x, error %d, want %x", d, got, why, rounded(d))
		}
		if got, why := round.Tiny(d); why != api.OK || got != isTiny(exactly(d)) {
			t.Errorf("Tiny(%v) = %v, error %d", d, got, why)
		}
	}
}

// 5.1: a number is rounded whatever its form, also one whose one form has no room.
func TestNearAnyForm(t *testing.T) {
	for _, d := range edges(t) {
		for _, n := range []int{1, 63, 64, 130} {
			form := api.Dyad{Neg: d.Neg, Exp: d.Exp - n, Abs: append(shifted(d.Abs, n), 0)}
			if dyad.Check(form) != api.OK {
				continue
			}
			if got, why := round.Near(form); why != api.OK || got != rounded(d) {
				t.Errorf("Near(%v) = %x, error %d, want %x", form, got, why, rounded(d))
			}
		}
	}
	beyond := api.Dyad{Neg: true, Abs: api.Nat{0, 2}, Exp: api.MaxExp}
	if got, why := round.Near(beyond); why != api.OK || got != (api.Result{Bits: infinity | minus, Flags: api.Overflow | api.Inexact}) {
		t.Errorf("Near(-2^(MaxExp + 65)) = %x, error %d", got, why)
	}
	for _, zero := range []api.Dyad{{}, {Neg: true}, {Neg: true, Abs: api.Nat{0, 0}, Exp: -5}, {Exp: api.MaxExp}} {
		got, why := round.Near(zero)
		if tiny, whyTiny := round.Tiny(zero); got != (api.Result{}) || why != api.OK || tiny || whyTiny != api.OK {
			t.Errorf("Near, Tiny(%v) = %x, %v, errors %d, %d", zero, got, tiny, why, whyTiny)
		}
	}
}

// shifted is a natural with n bits 0 ahead of its own.
func shifted(a api.Nat, n int) api.Nat {
	list := make(api.Nat, n/64, n/64+len(a)+1)
	carry := uint64(0)
	for _, w := range a {
		list = append(list, w<<(n%64)|carry)
		carry = w >> (64 - n%64)
	}
	return append(list, carry)
}

// 5.1, 5.2, 5.3: numbers that are not right.
func TestWrong(t *testing.T) {
	for _, d := range probe.WrongNumbers() {
		if got, why := round.Near(d); got != (api.Result{}) || why != api.ErrRange {
			t.Errorf("Near of %d words, %d = %v, error %d", len(d.Abs), d.Exp, got, why)
		}
		if got, why := round.Tiny(d); got || why != api.ErrRange {
			t.Errorf("Tiny of %d words, %d = %v, error %d", len(d.Abs), d.Exp, got, why)
		}
		for _, v := range []api.Ival{{Lo: d}, {Hi: d}, {Lo: d, Hi: d}, {Lo: d, Hi: of(1, api.MaxExp)}, {Lo: less(of(1, api.MaxExp)), Hi: d}} {
			refused(t, v)
		}
	}
	for _, v := range []api.Ival{
		{Lo: of(1, -1075)},
		{Lo: of(1, 0), Hi: less(of(1, 0))},
		{Lo: of(1<<60+1, -60), Hi: of(1, 0)},
		{Lo: of(1, -api.MaxExp), Hi: less(of(1, -api.MaxExp))},
		{Lo: of(1, 1), Hi: api.Dyad{Abs: api.Nat{0, 1}, Exp: -64}},
	} {
		refused(t, v)
	}
}

// refused: neither Decide nor Wide, with any p, answers.
func refused(t *testing.T, v api.Ival) {
	t.Helper()
	if got, is, why := round.Decide(v); got != (api.Result{}) || is || why != api.ErrRange {
		t.Errorf("Decide(%v) = %v, %v, error %d, want ErrRange", v, got, is, why)
	}
	for _, p := range []int{-1, 0, 7, api.MaxBits, api.MaxBits + 1} {
		if got, why := round.Wide(v, p); !empty(got) || why != api.ErrRange {
			t.Errorf("Wide(%v, %d) = %v, error %d, want ErrRange", v, p, got, why)
		}
	}
}

func empty(v api.Ival) bool {
	return !v.Lo.Neg && v.Lo.Abs == nil && v.Lo.Exp == 0 && !v.Hi.Neg && v.Hi.Abs == nil && v.Hi.Exp == 0
}

// decided is what Decide has to tell.
func decided(v api.Ival) (api.Result, bool) {
	lo, hi := exactly(v.Lo), exactly(v.Hi)
	x, y := rounded(v.Lo), rounded(v.Hi)
	tinyLo, tinyHi := lo.Sign() == 0 || isTiny(lo), hi.Sign() == 0 || isTiny(hi)
	if x.Bits != y.Bits || tinyLo != tinyHi {
		return api.Result{}, false
	}
	want := api.Result{Bits: x.Bits, Flags: api.Inexact}
	if x.Bits&^minus == infinity {
		want.Flags |= api.Overflow
	}
	if tinyLo {
		want.Flags |= api.Underflow
	}
	return want, true
}

// 5.2
func TestDecide(t *testing.T) {
	list := edges(t)
	slices.SortFunc(list, func(a, b api.Dyad) int {
		order, _ := dyad.Cmp(a, b)
		return order
	})
	for i := range list {
		for _, step := range []int{0, 1, 2, 3, 5, 40} {
			if i+step >= len(list) {
				continue
			}
			v := api.Ival{Lo: list[i], Hi: list[i+step]}
			want, whether := decided(v)
			if got, is, why := round.Decide(v); got != want || is != whether || why != api.OK {
				t.Errorf("Decide(%v) = %x, %v, error %d, want %x, %v", v, got, is, why, want, whether)
			}
		}
	}
}

// 5.2: what the chapter says of certain enclosures, by its words.
func TestDecideEdges(t *testing.T) {
	under := api.Underflow | api.Inexact
	for _, c := range []struct {
		lo, hi api.Dyad
		want   api.Result
		is     bool
	}{
		{api.Dyad{}, api.Dyad{}, api.Result{Flags: under}, true},
		{api.Dyad{}, of(1, -2000), api.Result{Flags: under}, true},
		{api.Dyad{}, of(1, -1075), api.Result{Flags: under}, true},
		{api.Dyad{}, of(3, -1076), api.Result{}, false},
		{less(of(1, -2000)), api.Dyad{}, api.Result{}, false}, // -0 and 0
		{less(of(1, -2000)), of(1, -2000), api.Result{}, false},
		{less(of(1, -1075)), less(of(1, -2000)), api.Result{Bits: minus, Flags: under}, true},
		{less(of(1, 0)), of(1, 0), api.Result{}, false},
		{of(1, 0), of(1, 0), api.Result{Bits: one, Flags: api.Inexact}, true},
		{of(1<<52-1, -1074), of(1<<52-1, -1074), api.Result{Bits: 1<<52 - 1, Flags: under}, true},
		{of(1, 0), of(1<<52+1, -52), api.Result{}, false},
		{of(1<<54+1, -54), of(1<<53+1, -53), api.Result{Bits: one, Flags: api.Inexact}, true},
		{of(1<<53+1, -53), of(1<<54+3, -54), api.Result{}, false},
		{of(1<<53+1, -53), of(1<<53+1, -53), api.Result{Bits: one, Flags: api.Inexact}, true},
		{of(1<<54-1, -1076), of(1, -1022), api.Result{Bits: leastNorm, Flags: api.Inexact}, true},
		{of(1<<53-1, -1075), of(1<<55-3, -1077), api.Result{Bits: leastNorm, Flags: under}, true},
		{of(1<<55-3, -1077), of(1<<54-1, -1076), api.Result{}, false}, // one number, but tiny and not tiny
		{of(1<<54-1, 970), of(1, api.MaxExp), api.Result{Bits: infinity, Flags: api.Overflow | api.Inexact}, true},
		{of(1<<55-3, 969), of(1<<54-1, 970), api.Result{}, false},
		{less(of(1, api.MaxExp)), less(of(1<<54-1, 970)), api.Result{Bits: infinity | minus, Flags: api.Overflow | api.Inexact}, true},
		{of(1<<53-1, 971), of(1<<55-3, 969), api.Result{Bits: greatest, Flags: api.Inexact}, true},
	} {
		if got, is, why := round.Decide(api.Ival{Lo: c.lo, Hi: c.hi}); got != c.want || is != c.is || why != api.OK {
			t.Errorf("Decide(%v, %v) = %x, %v, error %d", c.lo, c.hi, got, is, why)
		}
	}
}

// 5.3
func TestWide(t *testing.T) {
	list := append(edges(t)[:60:60], probe.GreatNumbers()...)
	for i := 0; i < len(list); i += 2 {
		for j := 0; j < len(list); j += 7 {
			v := api.Ival{Lo: list[i], Hi: list[j]}
			if exactly(v.Lo).Cmp(exactly(v.Hi)) > 0 {
				v.Lo, v.Hi = v.Hi, v.Lo
			}
			for _, p := range []int{0, 1, 53, api.MaxBits} {
				checkWide(t, v, p)
			}
		}
	}
	fine := api.Ival{Lo: less(of(1, 0)), Hi: of(3, -1)}
	for _, p := range []int{math.MinInt, -1, api.MaxBits + 1, math.MaxInt} {
		if got, why := round.Wide(fine, p); !empty(got) || why != api.ErrRange {
			t.Errorf("Wide with p = %d: %v, error %d, want ErrRange", p, got, why)
		}
	}
}

func checkWide(t *testing.T, v api.Ival, p int) {
	t.Helper()
	lo, hi := exactly(v.Lo), exactly(v.Hi)
	margin := new(big.Rat).Abs(lo)
	if amount := new(big.Rat).Abs(hi); amount.Cmp(margin) > 0 {
		margin = amount
	}
	margin = new(big.Rat).Mul(margin, power2(-p))
	lo = new(big.Rat).Sub(lo, margin)
	hi = new(big.Rat).Add(hi, margin)
	got, why := round.Wide(v, p)
	if !hasRoom(lo) || !hasRoom(hi) {
		if why != api.ErrMany || !empty(got) {
			t.Errorf("Wide(%v, %d) = %v, error %d, want ErrMany", v, p, got, why)
		}
		return
	}
	if why != api.OK || exactly(got.Lo).Cmp(lo) != 0 || exactly(got.Hi).Cmp(hi) != 0 || !inForm(got.Lo) || !inForm(got.Hi) {
		t.Errorf("Wide(%v, %d) = %v, error %d", v, p, got, why)
	}
}

// hasRoom tells whether a dyadic number has it in its one form.
func hasRoom(r *big.Rat) bool {
	if r.Sign() == 0 {
		return true
	}
	low := int(r.Num().TrailingZeroBits())
	exp := low - int(r.Denom().TrailingZeroBits())
	return r.Num().BitLen()-low <= 64*api.MaxLimbs && exp >= -api.MaxExp && exp <= api.MaxExp
}

func inForm(d api.Dyad) bool {
	if len(d.Abs) == 0 {
		return !d.Neg && d.Exp == 0
	}
	return d.Abs[0]&1 == 1 && d.Abs[len(d.Abs)-1] != 0
}

// 5.3: answers that just have room, and those that just have none.
func TestWideRoom(t *testing.T) {
	for _, c := range []struct {
		lo, hi api.Dyad
		p      int
		want   api.Errno
	}{
		{of(1, 7-api.MaxExp), of(1, 7-api.MaxExp), 7, api.OK},
		{of(1, 7-api.MaxExp), of(1, 7-api.MaxExp), 8, api.ErrMany},
		{of(1, api.MaxExp), of(1, api.MaxExp), 0, api.ErrMany},
		{of(1, api.MaxExp), of(1, api.MaxExp), 1, api.OK},
		{api.Dyad{}, api.Dyad{}, api.MaxBits, api.OK},
		{less(of(2, api.MaxExp)), of(2, api.MaxExp), 0, api.ErrMany},
		{less(of(2, api.MaxExp)), of(2, api.MaxExp), 1, api.OK},
		{less(of(4, api.MaxExp)), of(1, 0), 1, api.ErrMany},
		{less(of(1, 0)), of(4, api.MaxExp), 1, api.ErrMany},
		{api.Dyad{Abs: probe.Filled(api.MaxLimbs, 1)}, api.Dyad{Abs: probe.Filled(api.MaxLimbs, 1)}, 62, api.OK},
		{api.Dyad{Abs: probe.Filled(api.MaxLimbs, 1)}, api.Dyad{Abs: probe.Filled(api.MaxLimbs, 1)}, 64, api.ErrMany},
	} {
		v := api.Ival{Lo: c.lo, Hi: c.hi}
		checkWide(t, v, c.p)
		if _, why := round.Wide(v, c.p); why != c.want {
			t.Errorf("Wide with p = %d of exponents %d, %d: error %d, want %d", c.p, c.lo.Exp, c.hi.Exp, why, c.want)
		}
	}
}

// 5.4
func TestMid(t *testing.T) {
	for _, x := range probe.Floats() {
		below := exactly(from(t, x))
		above := power2(1024)
		if next := bits.Up(x); next != infinity {
			above = exactly(from(t, next))
		}
		want := new(big.Rat).Add(below, above)
		want.Mul(want, big.NewRat(1, 2))
		if d, why := round.Mid(x); why != api.OK || !inForm(d) || exactly(d).Cmp(want) != 0 {
			t.Errorf("Mid(%x) = %v, error %d", x, d, why)
		}
	}
	for x, want := range map[uint64]api.Dyad{
		0: of(1, -1075), minus: of(1, -1075), minus | 1: less(of(1, -1075)), greatest: of(1<<54-1, 970), one: of(1<<53+1, -53),
		1: of(3, -1075), minus | greatest: less(of(1<<54-3, 970)), leastNorm - 1: of(1<<53-1, -1075),
	} {
		if d, why := round.Mid(x); why != api.OK || d.Neg != want.Neg || d.Exp != want.Exp || !slices.Equal(d.Abs, want.Abs) {
			t.Errorf("Mid(%x) = %v, error %d, want %v", x, d, why, want)
		}
	}
	for _, x := range []uint64{infinity, infinity + 1, 0x7ff8000000000000, 0x7fffffffffffffff} {
		for _, y := range []uint64{x, x | minus} {
			if d, why := round.Mid(y); why != api.ErrWhole || d.Neg || d.Abs != nil || d.Exp != 0 {
				t.Errorf("Mid(%x) = %v, error %d, want ErrWhole", y, d, why)
			}
		}
	}
}

// 5.5
func TestMemory(t *testing.T) {
	for _, d := range edges(t) {
		before := slices.Clone(d.Abs)
		other := api.Dyad{Abs: slices.Clone(d.Abs), Neg: d.Neg, Exp: d.Exp}
		v := api.Ival{Lo: d, Hi: other}
		round.Near(d)
		round.Tiny(d)
		round.Decide(v)
		round.Decide(api.Ival{Lo: d, Hi: d})
		if wide, why := round.Wide(v, 20); why == api.OK && !probe.Apart([]api.Nat{wide.Lo.Abs, wide.Hi.Abs}, d.Abs, other.Abs) {
			t.Errorf("Wide(%v) shares memory", v)
		}
		if !slices.Equal(d.Abs, before) || !slices.Equal(other.Abs, before) {
			t.Errorf("an argument is changed: %v", d)
		}
	}
	a, b := mid(t, one), mid(t, one)
	zero, _ := round.Wide(api.Ival{}, 5)
	if !probe.Apart([]api.Nat{a.Abs, b.Abs, zero.Lo.Abs, zero.Hi.Abs}) {
		t.Error("two answers share memory")
	}
}
