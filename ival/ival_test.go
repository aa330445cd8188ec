package ival_test

import (
	"math"
	"slices"
	"strconv"
	"testing"

	"ulp/api"
	"ulp/dyad"
	"ulp/ival"
	"ulp/probe"
)

func of(n int64, exp int) api.Dyad {
	d := dyad.Int(n)
	if n != 0 {
		d.Exp += exp
	}
	return d
}

func less(d api.Dyad) api.Dyad {
	d.Neg = !d.Neg
	return d
}

// ordered is the enclosure between two right numbers, whichever is the lesser.
func ordered(x, y api.Dyad) api.Ival {
	if order, _ := dyad.Cmp(x, y); order > 0 {
		x, y = y, x
	}
	return api.Ival{Lo: x, Hi: y}
}

func ints(lo, hi int64) api.Ival { return api.Ival{Lo: of(lo, 0), Hi: of(hi, 0)} }

func point(d api.Dyad) api.Ival { return api.Ival{Lo: d, Hi: d} }

// enclosures are of all signs, with 0 at an end and within, points, ends not in their one form, and some without a pattern.
func enclosures() []api.Ival {
	twelve := api.Dyad{Abs: api.Nat{12, 0}, Exp: -2}
	list := []api.Ival{
		{}, ints(0, 0), ints(0, 1), ints(-1, 0), ints(-1, 1), ints(1, 1), ints(-1, -1), ints(1, 2), ints(3, 3), ints(-7, 5), ints(-5, 7), ints(-9, -4), ints(10, 11),
		{Lo: api.Dyad{Neg: true, Abs: api.Nat{0}, Exp: 9}, Hi: twelve}, {Lo: less(twelve), Hi: api.Dyad{Neg: true}}, point(twelve), {Lo: less(twelve), Hi: twelve},
		{Lo: of(1, -70), Hi: of(1, 70)}, {Lo: of(-1, 70), Hi: of(-1, -70)}, {Lo: of(-3, 90), Hi: of(5, -90)}, point(of(1<<53-1, -20)),
	}
	numbers := probe.Numbers()
	for i := 0; i+5 < len(numbers); i += 2 {
		list = append(list, ordered(numbers[i], numbers[i+5]), point(numbers[i]))
	}
	return list
}

// wrongOnes are not right, by an end or by their order.
func wrongOnes() []api.Ival {
	list := []api.Ival{ints(2, 1), ints(1, -1), ints(0, -1), {Lo: of(1, -api.MaxExp)}, {Lo: of(3, -1), Hi: of(1, 0)}, {Lo: of(1, 0), Hi: api.Dyad{Abs: api.Nat{1}, Exp: -1}}}
	for _, d := range probe.WrongNumbers() {
		list = append(list, point(d), api.Ival{Lo: of(-1, api.MaxExp), Hi: d}, api.Ival{Lo: d, Hi: of(1, api.MaxExp)})
	}
	return list
}

// P6.1
func TestForms(t *testing.T) {
	for _, v := range append(enclosures(), greatOnes()...) {
		if why := ival.Check(v); why != api.OK {
			t.Errorf("Check of %s = %d", show(v), why)
		}
		got, why := ival.Canon(v)
		expect(t, "Canon", got, why, span{realOf(v.Lo).odd(), realOf(v.Hi).odd()}, v)
		got, why = ival.Point(v.Hi)
		expect(t, "Point", got, why, span{realOf(v.Hi).odd(), realOf(v.Hi).odd()}, v)
	}
	for _, v := range wrongOnes() {
		if why := ival.Check(v); why != api.ErrRange {
			t.Errorf("Check of %s = %d, want ErrRange", show(v), why)
		}
		got, why := ival.Canon(v)
		expectError(t, "Canon", got, why, api.ErrRange, v)
	}
	for _, d := range probe.WrongNumbers() {
		got, why := ival.Point(d)
		expectError(t, "Point", got, why, api.ErrRange, point(d))
	}
	beyond := api.Dyad{Abs: api.Nat{2}, Exp: api.MaxExp}
	for _, v := range []api.Ival{point(beyond), {Hi: beyond}, {Lo: less(beyond)}} {
		got, why := ival.Canon(v)
		expectError(t, "Canon", got, why, api.ErrMany, v)
		if why := ival.Check(v); why != api.OK {
			t.Error("Check of a right one without room:", why)
		}
	}
	got, why := ival.Point(beyond)
	expectError(t, "Point", got, why, api.ErrMany, point(beyond))
}

// checkTwo holds what is reckoned of two right enclosures to p bits against what it should be.
func checkTwo(t *testing.T, a, b api.Ival, p int) {
	t.Helper()
	aLo, aHi, bLo, bHi := realOf(a.Lo), realOf(a.Hi), realOf(b.Lo), realOf(b.Hi)
	with := " to " + strconv.Itoa(p)
	got, why := ival.Add(a, b, p)
	expect(t, "Add"+with, got, why, outmost(p, aLo.plus(bLo), aHi.plus(bHi)), a, b)
	got, why = ival.Sub(a, b, p)
	expect(t, "Sub"+with, got, why, outmost(p, aLo.plus(bHi.negated()), aHi.plus(bLo.negated())), a, b)
	got, why = ival.Mul(a, b, p)
	expect(t, "Mul"+with, got, why, outmost(p, aLo.times(bLo), aLo.times(bHi), aHi.times(bLo), aHi.times(bHi)), a, b)
	got, why = ival.Div(a, b, p)
	if bLo.num.Sign() <= 0 && bHi.num.Sign() >= 0 {
		expectError(t, "Div"+with, got, why, api.ErrZero, a, b)
		return
	}
	expect(t, "Div"+with, got, why, outmost(p, aLo.over(bLo), aLo.over(bHi), aHi.over(bLo), aHi.over(bHi)), a, b)
}

// checkOne does so of one.
func checkOne(t *testing.T, a api.Ival, p int) {
	t.Helper()
	lo, hi := realOf(a.Lo), realOf(a.Hi)
	with := " to " + strconv.Itoa(p)
	got, why := ival.Cut(a, p)
	expect(t, "Cut"+with, got, why, outmost(p, lo, hi), a)
	got, why = ival.Sqrt(a, p)
	if lo.num.Sign() < 0 {
		expectError(t, "Sqrt"+with, got, why, api.ErrLess, a)
		return
	}
	expect(t, "Sqrt"+with, got, why, outmost(p, lo.rooted(), hi.rooted()), a)
}

// P6.2
func TestReckon(t *testing.T) {
	list := enclosures()
	for i, a := range list {
		for j, b := range list {
			checkTwo(t, a, b, []int{1, 2, 3, 8, 53, 64, 65, 200}[(i+j)%8])
		}
		checkTwo(t, a, list[(i+1)%len(list)], api.MaxWork)
	}
}

// P6.2: ends of all signs, and all small numbers of bits.
func TestSigns(t *testing.T) {
	ends := []int64{-12, -5, -3, -1, 0, 1, 3, 7, 10}
	var list []api.Ival
	for i, lo := range ends {
		for _, hi := range ends[i:] {
			list = append(list, ints(lo, hi))
		}
	}
	for _, a := range list {
		for _, b := range list {
			for _, p := range []int{1, 2, 4} {
				checkTwo(t, a, b, p)
			}
		}
	}
}

// P6.2, P6.3: roots of 0, of squares and of their neighbours, of odd exponents; cuts.
func TestRootsAndCuts(t *testing.T) {
	list := enclosures()
	for _, n := range []int64{1, 2, 3, 4, 5, 8, 9, 15, 16, 17, 1<<40 - 1, 1 << 40, 1<<40 + 1, 3037000499 * 3037000499, 3037000499*3037000499 - 1, 3037000499*3037000499 + 1} {
		for _, exp := range []int{0, 1, -1, 2, -2, 63, -64, 501, -502, api.MaxExp, -api.MaxExp, api.MaxExp - 1, 1 - api.MaxExp} {
			d := api.Dyad{Abs: api.Nat{uint64(n)}, Exp: exp}
			list = append(list, point(d), api.Ival{Hi: d}, point(less(d)))
		}
	}
	for i, a := range list {
		for _, p := range []int{1, 2, 3, 31, 32, 33, 64, 100} {
			checkOne(t, a, p)
		}
		if i%9 == 0 {
			checkOne(t, a, api.MaxWork)
		}
	}
	below := api.Ival{Lo: of(-1, -api.MaxExp), Hi: of(4, 0)}
	got, why := ival.Sqrt(below, 8)
	expectError(t, "Sqrt", got, why, api.ErrLess, below)
	zero := api.Ival{Lo: api.Dyad{Neg: true, Exp: 5}, Hi: of(4, 0)}
	got, why = ival.Sqrt(zero, 8)
	expect(t, "Sqrt", got, why, span{realOf(of(0, 0)), realOf(of(1, 1))}, zero)
}

// P6.2, P6.3: numbers of bits that no one may ask for, and enclosures that are not right, whatever else is wrong.
func TestRefused(t *testing.T) {
	fine, below := ints(1, 2), ints(-1, 1)
	for _, p := range []int{math.MinInt, -1, 0, api.MaxWork + 1, math.MaxInt} {
		for _, v := range []api.Ival{fine, below, {}} {
			refusedToReckon(t, v, fine, p)
			refusedToReckon(t, fine, v, p)
		}
	}
	for _, wrong := range wrongOnes() {
		for _, p := range []int{0, 1, api.MaxWork} {
			refusedToReckon(t, wrong, fine, p)
			refusedTwo(t, fine, wrong, p)
			refusedTwo(t, wrong, below, p)
			refusedTwo(t, wrong, wrong, p)
		}
		got, why := ival.Neg(wrong)
		expectError(t, "Neg", got, why, api.ErrRange, wrong)
		got, why = ival.Scale(wrong, 1)
		expectError(t, "Scale", got, why, api.ErrRange, wrong)
		got, why = ival.Join(wrong, fine)
		expectError(t, "Join", got, why, api.ErrRange, wrong, fine)
		got, why = ival.Join(fine, wrong)
		expectError(t, "Join", got, why, api.ErrRange, fine, wrong)
	}
}

// refusedToReckon: all that is reckoned of a, and of both, is out of range.
func refusedToReckon(t *testing.T, a, b api.Ival, p int) {
	t.Helper()
	refusedTwo(t, a, b, p)
	got, why := ival.Sqrt(a, p)
	expectError(t, "Sqrt", got, why, api.ErrRange, a)
	got, why = ival.Cut(a, p)
	expectError(t, "Cut", got, why, api.ErrRange, a)
}

func refusedTwo(t *testing.T, a, b api.Ival, p int) {
	t.Helper()
	for name, way := range twos() {
		got, why := way(a, b, p)
		expectError(t, name, got, why, api.ErrRange, a, b)
	}
}

// P6.2: 0 in a divisor, at its ends, and just not.
func TestDivisorZero(t *testing.T) {
	least := of(1, -api.MaxExp)
	for _, b := range []api.Ival{{}, ints(0, 1), ints(-1, 0), ints(-1, 1), {Lo: less(least), Hi: least}, {Lo: api.Dyad{Neg: true, Abs: api.Nat{0}, Exp: 3}, Hi: least}} {
		for _, a := range []api.Ival{{}, ints(1, 1), ints(-1, 1)} {
			got, why := ival.Div(a, b, 8)
			expectError(t, "Div", got, why, api.ErrZero, a, b)
		}
	}
	for _, b := range []api.Ival{{Lo: least, Hi: of(1, 0)}, {Lo: of(-1, 0), Hi: less(least)}} {
		for _, a := range []api.Ival{{}, ints(1, 1), ints(-1, 1), point(least)} {
			checkTwo(t, a, b, 8)
		}
	}
}

// P6.3
func TestTurnedAndScaled(t *testing.T) {
	shifts := []int{0, 1, -1, 64, -500, api.MaxExp, -api.MaxExp, 2 * api.MaxExp, -2 * api.MaxExp}
	for _, v := range append(enclosures(), greatOnes()...) {
		lo, hi := realOf(v.Lo), realOf(v.Hi)
		got, why := ival.Neg(v)
		expect(t, "Neg", got, why, span{hi.negated().odd(), lo.negated().odd()}, v)
		for _, n := range shifts {
			got, why := ival.Scale(v, n)
			expect(t, "Scale by "+strconv.Itoa(n), got, why, span{whole(lo.num, lo.exp+n).odd(), whole(hi.num, hi.exp+n).odd()}, v)
		}
		for _, n := range []int{2*api.MaxExp + 1, -2*api.MaxExp - 1, math.MaxInt, math.MinInt} {
			got, why := ival.Scale(v, n)
			expectError(t, "Scale by "+strconv.Itoa(n), got, why, api.ErrRange, v)
		}
	}
}

// joined is what Join has to be.
func joined(a, b api.Ival) span {
	s := span{realOf(a.Lo).odd(), realOf(a.Hi).odd()}
	if lo := realOf(b.Lo).odd(); lo.against(s.lo) < 0 {
		s.lo = lo
	}
	if hi := realOf(b.Hi).odd(); hi.against(s.hi) > 0 {
		s.hi = hi
	}
	return s
}

// P6.3
func TestJoin(t *testing.T) {
	list := enclosures()
	for _, a := range list {
		for _, b := range list {
			got, why := ival.Join(a, b)
			expect(t, "Join", got, why, joined(a, b), a, b)
		}
	}
	great := greatOnes()
	for i, a := range great {
		b := great[(7*i+3)%len(great)]
		got, why := ival.Join(a, b)
		expect(t, "Join", got, why, joined(a, b), a, b)
	}
	// What has no room is only asked of the ends that are answered.
	beyond := api.Dyad{Abs: api.Nat{2}, Exp: api.MaxExp}
	got, why := ival.Join(api.Ival{Hi: beyond}, ints(1, 1))
	expectError(t, "Join", got, why, api.ErrMany, api.Ival{Hi: beyond})
	above := api.Ival{Lo: beyond, Hi: api.Dyad{Abs: api.Nat{3}, Exp: api.MaxExp}}
	got, why = ival.Join(above, ints(1, 1))
	expect(t, "Join", got, why, joined(above, ints(1, 1)), above)
}

// P6.4
func TestTold(t *testing.T) {
	list := append(enclosures(), greatOnes()[:12]...)
	for _, a := range list {
		for _, b := range list {
			aLo, aHi, bLo, bHi := realOf(a.Lo), realOf(a.Hi), realOf(b.Lo), realOf(b.Hi)
			if got := ival.Meets(a, b); got != (aLo.against(bHi) <= 0 && bLo.against(aHi) <= 0) {
				t.Errorf("Meets of %s = %v", show(a, b), got)
			}
			if got := ival.Within(a, b); got != (bLo.against(aLo) <= 0 && aHi.against(bHi) <= 0) {
				t.Errorf("Within of %s = %v", show(a, b), got)
			}
			if got := ival.Has(a, b.Lo); got != (aLo.against(bLo) <= 0 && bLo.against(aHi) <= 0) {
				t.Errorf("Has of %s = %v", show(a, point(b.Lo)), got)
			}
		}
	}
	if !ival.Meets(ints(1, 2), ints(2, 3)) || !ival.Meets(ints(2, 3), ints(1, 2)) || ival.Meets(ints(1, 2), ints(3, 4)) || ival.Meets(ints(3, 4), ints(1, 2)) {
		t.Error("Meets of what touches, of what does not")
	}
	if !ival.Within(ints(1, 2), ints(1, 2)) || ival.Within(ints(0, 2), ints(1, 2)) || ival.Within(ints(1, 3), ints(1, 2)) {
		t.Error("Within of ends")
	}
}

// P6.4
func TestToldOfWrong(t *testing.T) {
	for _, wrong := range wrongOnes() {
		for _, v := range []api.Ival{ints(-1, 1), {}, {Lo: of(-1, api.MaxExp), Hi: of(1, api.MaxExp)}, wrong} {
			if ival.Meets(wrong, v) || ival.Meets(v, wrong) || ival.Within(wrong, v) || ival.Within(v, wrong) {
				t.Errorf("Meets or Within of %s", show(wrong, v))
			}
		}
		if s, one := ival.Sign(wrong); s != 0 || one {
			t.Errorf("Sign of %s = %d, %v", show(wrong), s, one)
		}
		if ival.Has(wrong, of(0, 0)) || ival.Has(wrong, of(1, 0)) || ival.Narrow(wrong, 0) || ival.Narrow(wrong, -1) {
			t.Errorf("Has or Narrow of %s", show(wrong))
		}
	}
	for _, d := range probe.WrongNumbers() {
		if ival.Has(ints(-1, 1), d) || ival.Has(api.Ival{}, d) {
			t.Errorf("Has(%s)", showEnd(d))
		}
	}
}

// P6.4
func TestSign(t *testing.T) {
	least := of(1, -api.MaxExp)
	for _, c := range []struct {
		v    api.Ival
		sign int
		one  bool
	}{
		{ints(1, 2), 1, true}, {ints(-2, -1), -1, true}, {ints(0, 0), 0, true}, {ints(0, 1), 0, false}, {ints(-1, 0), 0, false}, {ints(-1, 1), 0, false},
		{point(least), 1, true}, {point(less(least)), -1, true}, {api.Ival{Lo: less(least), Hi: least}, 0, false},
		{api.Ival{Lo: api.Dyad{Neg: true}, Hi: api.Dyad{Neg: true, Abs: api.Nat{0}, Exp: 5}}, 0, true},
		{api.Ival{Lo: api.Dyad{Exp: 3}, Hi: api.Dyad{Neg: true, Exp: -2}}, 0, true},
	} {
		if s, one := ival.Sign(c.v); s != c.sign || one != c.one {
			t.Errorf("Sign of %s = %d, %v", show(c.v), s, one)
		}
	}
}

// isNarrow is what Narrow has to tell.
func isNarrow(v api.Ival, p int) bool {
	lo, hi := realOf(v.Lo), realOf(v.Hi)
	if p < 0 || lo.num.Sign() != hi.num.Sign() {
		return false
	}
	width, near := hi.plus(lo.negated()), lo
	if lo.num.Sign() < 0 {
		near = hi.negated()
	}
	if width.num.Sign() == 0 {
		return true
	}
	width.exp += min(p, 1<<20)
	return width.against(near) <= 0
}

// P6.4
func TestNarrow(t *testing.T) {
	bits := []int{math.MinInt, -1, 0, 1, 2, 3, 4, 63, 64, 65, 100, 65535, 65536, 65537, 1 << 18, math.MaxInt}
	list := append(enclosures(), greatOnes()...)
	for _, n := range []int{0, 1, 3, 4, 64, 8191, 8192, 20000, 32767} { // the very width, and one that is just more
		one, hair := of(1, 0), of(1, -n)
		very, _ := dyad.Add(one, hair)
		just, _ := dyad.Add(very, of(1, -api.MaxExp))
		inside, _ := dyad.Sub(very, of(1, -api.MaxExp))
		for _, d := range []api.Dyad{very, just, inside} {
			list = append(list, api.Ival{Lo: one, Hi: d}, api.Ival{Lo: less(d), Hi: less(one)}, api.Ival{Hi: d})
		}
		bits = append(bits, n-1, n, n+1)
	}
	for _, v := range list {
		for _, p := range bits {
			if got := ival.Narrow(v, p); got != isNarrow(v, p) {
				t.Errorf("Narrow(%s, %d) = %v", show(v), p, got)
			}
		}
	}
	for _, v := range []api.Ival{ints(3, 3), ints(0, 0), point(of(-1, api.MaxExp))} {
		if ival.Narrow(v, -1) || ival.Narrow(v, math.MinInt) || !ival.Narrow(v, 0) || !ival.Narrow(v, math.MaxInt) {
			t.Errorf("Narrow of the point %s", show(v))
		}
	}
}

// words are the lists of an enclosure.
func words(v api.Ival) []api.Nat { return []api.Nat{v.Lo.Abs, v.Hi.Abs} }

// P6.5
func TestMemory(t *testing.T) {
	list := append(enclosures(), greatOnes()[:6]...)
	for i, a := range list {
		b := list[(i+7)%len(list)]
		arguments := append(words(a), words(b)...)
		var before []api.Nat
		for _, w := range arguments {
			before = append(before, slices.Clone(w))
		}
		for _, got := range answers(a, b) {
			if !probe.Apart(words(got), arguments...) {
				t.Errorf("an answer of %s shares memory", show(a, b))
			}
		}
		ival.Check(a)
		ival.Meets(a, b)
		ival.Within(a, b)
		ival.Has(a, b.Lo)
		ival.Narrow(a, 5)
		ival.Sign(a)
		for j, w := range arguments {
			if !slices.Equal(w, before[j]) {
				t.Errorf("an argument of %s is changed", show(a, b))
			}
		}
	}
}

// answers are all that is made of two enclosures.
func answers(a, b api.Ival) []api.Ival {
	var list []api.Ival
	keep := func(v api.Ival, why api.Errno) { list = append(list, v) }
	keep(ival.Point(a.Lo))
	keep(ival.Canon(a))
	keep(ival.Add(a, b, 70))
	keep(ival.Sub(a, b, 70))
	keep(ival.Mul(a, b, 70))
	keep(ival.Div(a, b, 70))
	keep(ival.Sqrt(a, 70))
	keep(ival.Neg(a))
	keep(ival.Scale(a, 3))
	keep(ival.Join(a, b))
	keep(ival.Cut(a, 70))
	return list
}
