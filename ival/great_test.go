package ival_test

import (
	"math"
	"testing"

	"ulp/api"
	"ulp/dyad"
	"ulp/ival"
	"ulp/probe"
)

const (
	mostBits = 64 * api.MaxLimbs
	all      = uint64(math.MaxUint64)
)

// powerAnd is 2^n + 1, or 2^n - 1, times 2^exp.
func powerAnd(n, one, exp int) api.Dyad {
	if one < 0 {
		d := api.Dyad{Abs: probe.Filled(n/64+1, all), Exp: exp}
		d.Abs[n/64] = 1<<(n%64) - 1
		return d
	}
	d := api.Dyad{Abs: probe.Power2(n), Exp: exp}
	d.Abs[0] |= 1
	return d
}

// greatOnes are right enclosures at the limits of size and exponent, not all with room.
func greatOnes() []api.Ival {
	var list []api.Ival
	numbers := probe.GreatNumbers()
	for i, d := range numbers {
		list = append(list, point(d), ordered(d, numbers[(5*i+2)%len(numbers)]))
	}
	return list
}

// P6.2
func TestGreat(t *testing.T) {
	list := greatOnes()
	for i, a := range list {
		for j := i % 11; j < len(list); j += 11 {
			checkTwo(t, a, list[j], []int{1, 64, 777}[(i+j)%3])
		}
		checkTwo(t, a, ints(3, 3), api.MaxWork)
		checkTwo(t, ints(-1, 1), a, api.MaxWork)
		checkOne(t, a, 1+i)
		checkOne(t, a, api.MaxWork)
	}
}

// P6.2: sums of more bits than a natural has, where their ends, cut, may have room; and where they have none.
func TestGreatSums(t *testing.T) {
	least := of(1, -api.MaxExp)
	beyond := api.Dyad{Abs: probe.Power2(232), Exp: api.MaxExp} // 2^33000: right, without room in its one form
	numbers := []api.Dyad{
		of(1, api.MaxExp), of(3, api.MaxExp), least, of(3, -api.MaxExp), of(1, -1), of(1, 0), beyond,
		powerAnd(mostBits-1, 1, -api.MaxExp+1),
		powerAnd(mostBits, -1, -api.MaxExp),
		powerAnd(mostBits, -1, -api.MaxExp+1),
		powerAnd(mostBits, -1, -1),
		powerAnd(mostBits, -1, 0),
		powerAnd(mostBits-1, 1, -1),
		powerAnd(mostBits-1, 1, -24576), // 2^40959 and a little
		powerAnd(mostBits-1, 1, -32766), // 2^32769 and a little
		powerAnd(mostBits-1, 1, -24577),
		powerAnd(mostBits-1, 1, api.MaxExp),
		{Abs: probe.Power2(40960 - api.MaxExp), Exp: api.MaxExp},
		{Abs: probe.Power2(40959 - api.MaxExp), Exp: api.MaxExp},
		{Abs: probe.Power2(mostBits - 1), Exp: 0},
		{Abs: probe.Power2(mostBits - 1), Exp: api.MaxExp},
		powerAnd(8192, 1, 24577), powerAnd(8191, 1, 24577), powerAnd(8192, -1, 24577),
	}
	for i, x := range numbers {
		for _, y := range numbers[i:] {
			for _, p := range []int{1, 2, 8190, 8191, api.MaxWork} {
				checkSums(t, x, y, p)
				checkSums(t, less(x), less(y), p)
				checkSums(t, less(x), y, p)
				checkSums(t, x, less(y), p)
			}
		}
	}
}

// checkSums looks at the sum of two numbers as that of points, and as one end of a wide enclosure: so each end is seen where the other one has no room.
func checkSums(t *testing.T, x, y api.Dyad, p int) {
	t.Helper()
	exact := realOf(x).plus(realOf(y))
	got, why := ival.Add(point(x), point(y), p)
	expect(t, "Add", got, why, outmost(p, exact), point(x), point(y))
	zero := realOf(api.Dyad{})
	if x.Neg == y.Neg {
		a, b := ordered(x, api.Dyad{}), ordered(y, api.Dyad{})
		got, why := ival.Add(a, b, p)
		expect(t, "Add", got, why, outmost(p, exact, zero), a, b)
	}
}

// P6.2: the chapter's words for sums whose upper end alone has room.
func TestSumJustHasRoom(t *testing.T) {
	a, b := api.Ival{Hi: powerAnd(mostBits-1, 1, -24576)}, api.Ival{Hi: powerAnd(mostBits-1, 1, -32766)}
	got, why := ival.Add(a, b, api.MaxWork)
	if top, _ := dyad.Top(got.Hi); why != api.OK || got.Hi.Exp != api.MaxExp || top != 40959 || !dyad.Zero(got.Lo) {
		t.Errorf("Add of %s = %s, error %d", show(a, b), show(got), why)
	}
	got, why = ival.Add(a, b, api.MaxWork-1)
	expectError(t, "Add", got, why, api.ErrMany, a, b)
}

// P6.2: products of more bits than a natural has.
func TestGreatProducts(t *testing.T) {
	numbers := []api.Dyad{
		powerAnd(48000, 1, -api.MaxExp), powerAnd(48000, -1, -api.MaxExp), // their product is 2^96000 - 1
		powerAnd(mostBits, -1, -api.MaxExp), powerAnd(mostBits-1, 1, -api.MaxExp), powerAnd(mostBits-1, -1, -api.MaxExp),
		{Abs: probe.Power2(mostBits - 1), Exp: -api.MaxExp},
		{Abs: probe.Filled(api.MaxLimbs/2, all), Exp: -api.MaxExp}, {Abs: probe.Filled(api.MaxLimbs/2+1, all), Exp: -api.MaxExp},
		{Abs: append(probe.Filled(api.MaxLimbs/2, 0), probe.Filled(api.MaxLimbs/2, all)...), Exp: -api.MaxExp},
		{Abs: append(probe.Filled(api.MaxLimbs/2, all), append(probe.Filled(api.MaxLimbs/2-1, 0), 1)...), Exp: -api.MaxExp},
		of(3, -api.MaxExp), of(5, 7),
	}
	s := probe.Source(77)
	for _, n := range []int{520, 640, 800, 830, 1000} { // (of the most words no product has room)
		numbers = append(numbers, api.Dyad{Neg: s.Word()%2 == 0, Abs: append(s.Natural(n-1), s.Word()), Exp: -api.MaxExp})
	}
	for i, x := range numbers {
		for j, y := range numbers[i:] {
			for _, p := range []int{1 + i, api.MaxWork} {
				checkTwo(t, point(x), point(y), p)
				checkTwo(t, ordered(x, less(y)), ordered(less(y), numbers[j]), p)
			}
		}
	}
}

// P6.2: quotients of which what is divided, with the bits 0 that it needs, has more words than a natural; exact ones and their neighbours.
func TestGreatQuotients(t *testing.T) {
	divisors := []api.Dyad{
		powerAnd(mostBits-1, 1, 0), powerAnd(mostBits, -1, 0), powerAnd(mostBits-64, 1, 0), powerAnd(57000, -1, 0), powerAnd(57400, 1, 0), powerAnd(65000, 1, 0),
		{Abs: append(append(probe.Filled(135, all), probe.Filled(api.MaxLimbs-136, 0)...), 1<<63)},
		{Abs: append(probe.Filled(api.MaxLimbs-1, all), 1)},
		{Abs: append(api.Nat{1}, append(probe.Filled(api.MaxLimbs-2, 0), all)...)},
	}
	for _, y := range divisors {
		y.Exp = -api.MaxExp
		for _, x := range []api.Dyad{of(1, 0), of(3, 9), powerAnd(8000, -1, 0), powerAnd(8192, 1, 0), powerAnd(mostBits-1, 1, 0), powerAnd(mostBits, -1, 0), y} {
			x.Exp = api.MaxExp - realOf(x).num.BitLen() // so the quotient is near 2^0, and has room
			for _, p := range []int{1, 64, 8129, api.MaxWork} {
				checkTwo(t, point(x), point(y), p)
			}
			checkTwo(t, ordered(x, less(x)), point(less(y)), 100)
		}
		for _, p := range []int{1, 100, 8000} { // where the quotient by fewer words of y is one too great, and that is seen after the cut
			checkTwo(t, point(powerAnd(p+1, 1, api.MaxExp)), point(y), p)
		}
	}
	for _, n := range []int{3, 63, 64, 8000, 8191} {
		y := powerAnd(mostBits-n-1, 1, -api.MaxExp)
		times, _ := dyad.Mul(y, powerAnd(n, -1, 20000))
		last := api.Dyad{Abs: api.Nat{1}, Exp: times.Exp}
		more, _ := dyad.Add(times, last)
		fewer, _ := dyad.Sub(times, last)
		for _, x := range []api.Dyad{times, more, fewer} {
			for _, p := range []int{n - 1, n, n + 1, api.MaxWork} {
				checkTwo(t, point(x), point(y), p)
			}
		}
		if got, why := ival.Div(point(times), point(y), n); why != api.OK || !isForm(got.Lo, realOf(powerAnd(n, -1, 20000))) || !isForm(got.Hi, realOf(got.Lo)) {
			t.Errorf("an exact quotient of %d bits is not told: error %d", n, why)
		}
	}
}

// P6.2: roots of the most bits.
func TestGreatRoots(t *testing.T) {
	for _, n := range []int{8191, 8192, 8193, 16384, 32767} {
		d := powerAnd(n, 1, 0)
		square, _ := dyad.Mul(d, d)
		last := api.Dyad{Abs: api.Nat{1}}
		more, _ := dyad.Add(square, last)
		fewer, _ := dyad.Sub(square, last)
		for _, x := range []api.Dyad{square, more, fewer, powerAnd(2*n+1, 1, 0), powerAnd(2*n+2, -1, 1)} {
			for _, exp := range []int{0, 1, -1, -api.MaxExp, 1 - api.MaxExp} {
				x.Exp = exp
				for _, p := range []int{1, 64, 8191, api.MaxWork} {
					checkOne(t, point(x), p)
				}
			}
		}
	}
}

// P6.2: answers that just have room and those that just have none, at either bound of the exponent.
func TestBounds(t *testing.T) {
	high, low := of(1, api.MaxExp), of(1, -api.MaxExp)
	for _, c := range []struct{ a, b api.Dyad }{
		{high, high}, {low, low}, {high, low}, {low, high}, {high, of(1, 0)}, {low, of(1, 0)}, {high, of(1, 1)}, {high, of(1, -1)}, {low, of(1, 1)}, {low, of(1, -1)},
		{low, of(3, 0)}, {high, of(3, 0)}, {of(3, api.MaxExp), of(3, 0)}, {of(3, -api.MaxExp), of(3, 0)}, {of(3, -api.MaxExp), of(5, 0)}, {of(7, 2-api.MaxExp), of(5, 0)},
		{of(1, api.MaxExp/2), of(1, api.MaxExp/2)}, {of(1, api.MaxExp/2), of(1, api.MaxExp/2+1)}, {of(1, -api.MaxExp/2), of(1, -api.MaxExp/2-1)},
	} {
		for _, p := range []int{1, 2, 3, 5, 64} {
			checkTwo(t, point(c.a), point(c.b), p)
			checkTwo(t, point(less(c.a)), ordered(c.b, high), p)
			checkOne(t, ordered(c.a, c.b), p)
		}
	}
	if _, why := ival.Add(point(high), point(high), 8); why != api.ErrMany {
		t.Error("2^MaxExp twice: error", why)
	}
	if _, why := ival.Mul(point(low), point(of(1, -1)), 8); why != api.ErrMany {
		t.Error("half of 2^-MaxExp: error", why)
	}
	if v, why := ival.Mul(point(of(3, -api.MaxExp)), point(of(3, -1)), 3); why != api.OK || !isForm(v.Lo, realOf(of(1, 2-api.MaxExp))) {
		t.Errorf("9 times 2^(-MaxExp - 1) cut to 3 bits: %s, error %d", show(v), why)
	}
}

// P6.4: widths that no right number is.
func TestGreatNarrow(t *testing.T) {
	most, next := powerAnd(mostBits, -1, 0), api.Dyad{Abs: probe.Power2(mostBits - 1), Exp: 1}
	for _, exp := range []int{-api.MaxExp, 0, api.MaxExp - 1} {
		most.Exp, next.Exp = exp, exp+1
		for _, v := range []api.Ival{{Lo: most, Hi: next}, {Lo: less(next), Hi: less(most)}, {Lo: of(1, -api.MaxExp), Hi: next}, {Lo: of(1, -api.MaxExp), Hi: most}} {
			for _, p := range []int{0, 1, mostBits - 2, mostBits - 1, mostBits, mostBits + 1} {
				if got := ival.Narrow(v, p); got != isNarrow(v, p) {
					t.Errorf("Narrow(%s, %d) = %v", show(v), p, got)
				}
			}
		}
	}
}
