package ival_test

import (
	"math/big"
	"slices"
	"testing"

	"ulp/api"
	"ulp/dyad"
	"ulp/ival"
	"ulp/probe"
)

// twos are the calls that make one enclosure of two.
func twos() map[string]func(a, b api.Ival, p int) (api.Ival, api.Errno) {
	return map[string]func(a, b api.Ival, p int) (api.Ival, api.Errno){"Add": ival.Add, "Sub": ival.Sub, "Mul": ival.Mul, "Div": ival.Div}
}

func ratio(d api.Dyad) *big.Rat {
	x := realOf(d)
	r := new(big.Rat).SetInt(x.num)
	power := new(big.Rat).SetInt(new(big.Int).Lsh(big.NewInt(1), uint(max(x.exp, -x.exp))))
	if x.exp < 0 {
		power.Inv(power)
	}
	return r.Mul(r, power)
}

// exactly is what a call makes of two numbers.
func exactly(name string, x, y *big.Rat) *big.Rat {
	switch name {
	case "Add":
		return new(big.Rat).Add(x, y)
	case "Sub":
		return new(big.Rat).Sub(x, y)
	case "Mul":
		return new(big.Rat).Mul(x, y)
	default:
		return new(big.Rat).Quo(x, y)
	}
}

// steps are the numbers of an enclosure that are quarters, both ends with them, if these are such.
func steps(lo, hi int64) []*big.Rat {
	var list []*big.Rat
	for n := 4 * lo; n <= 4*hi; n++ {
		list = append(list, big.NewRat(n, 4))
	}
	return list
}

// fewBits are all numbers of at most p bits, and 0, that may lie next to what is made of small numbers.
func fewBits(p int) []*big.Rat {
	list := []*big.Rat{new(big.Rat)}
	for n := int64(1) << (p - 1); n < 1<<p; n++ {
		for exp := -10; exp < 8; exp++ {
			r := ratio(of(n, exp))
			list = append(list, r, new(big.Rat).Neg(r))
		}
	}
	slices.SortFunc(list, (*big.Rat).Cmp)
	return list
}

// P6.2 by its words: the greatest number of few bits that is at most all that is made of the numbers of both, the least that is at least these. Of ends that are small, all numbers of few bits are gone through.
func TestByWords(t *testing.T) {
	ends := [][2]int64{{-3, -2}, {-3, 2}, {-1, 0}, {0, 0}, {0, 3}, {1, 1}, {1, 3}, {3, 3}}
	for _, p := range []int{1, 2, 3} {
		candidates := fewBits(p)
		for _, a := range ends {
			for _, b := range ends {
				for name, way := range twos() {
					if name == "Div" && b[0] <= 0 && b[1] >= 0 {
						continue
					}
					got, why := way(ints(a[0], a[1]), ints(b[0], b[1]), p)
					lo, hi := nextTo(candidates, allMade(name, a, b))
					if why != api.OK || ratio(got.Lo).Cmp(lo) != 0 || ratio(got.Hi).Cmp(hi) != 0 {
						t.Errorf("%s of %v, %v to %d = %s, error %d, want [%v, %v]", name, a, b, p, show(got), why, lo, hi)
					}
				}
			}
		}
	}
}

// allMade is what a call makes of many numbers of both, the ends with them, in their order.
func allMade(name string, a, b [2]int64) []*big.Rat {
	var made []*big.Rat
	for _, x := range steps(a[0], a[1]) {
		for _, y := range steps(b[0], b[1]) {
			made = append(made, exactly(name, x, y))
		}
	}
	slices.SortFunc(made, (*big.Rat).Cmp)
	return made
}

// nextTo are the greatest candidate that is at most all numbers, and the least that is at least these.
func nextTo(candidates, numbers []*big.Rat) (lo, hi *big.Rat) {
	for _, c := range candidates {
		if c.Cmp(numbers[0]) <= 0 {
			lo = c
		}
		if hi == nil && c.Cmp(numbers[len(numbers)-1]) >= 0 {
			hi = c
		}
	}
	return lo, hi
}

// within are some numbers of an enclosure, both ends with them.
func within(t *testing.T, v api.Ival) []api.Dyad {
	t.Helper()
	list := []api.Dyad{v.Lo, v.Hi}
	for _, n := range []int64{1, 3, 4, 7} { // in eighths
		low, why := dyad.Mul(v.Lo, of(8-n, -3))
		high, whyHigh := dyad.Mul(v.Hi, of(n, -3))
		d, whySum := dyad.Add(low, high)
		if why != api.OK || whyHigh != api.OK || whySum != api.OK {
			t.Fatal("a number of this test has no room")
		}
		list = append(list, d)
	}
	return list
}

// smallOnes are enclosures of few words.
func smallOnes() []api.Ival {
	s := probe.Source(31)
	list := enclosures()[:21]
	for range 20 {
		list = append(list, ordered(s.Number(), s.Number()))
	}
	return list
}

// P6.6
func TestEncloses(t *testing.T) {
	list := smallOnes()
	for i, a := range list {
		b := list[(i*5+2)%len(list)]
		for name, way := range twos() {
			for _, p := range []int{1, 9, 100} {
				got, why := way(a, b, p)
				if why != api.OK {
					continue
				}
				for _, x := range within(t, a) {
					for _, y := range within(t, b) {
						r := exactly(name, ratio(x), ratio(y))
						if r.Cmp(ratio(got.Lo)) < 0 || r.Cmp(ratio(got.Hi)) > 0 {
							t.Errorf("%s of %s to %d = %s: not all lies in it", name, show(a, b), p, show(got))
						}
					}
				}
			}
		}
		checkRootEncloses(t, a)
	}
}

func checkRootEncloses(t *testing.T, a api.Ival) {
	t.Helper()
	got, why := ival.Sqrt(a, 20)
	if why != api.OK {
		return
	}
	lo, hi := ratio(got.Lo), ratio(got.Hi)
	for _, x := range within(t, a) {
		if r := ratio(x); r.Cmp(lo.Mul(lo, lo)) < 0 || r.Cmp(new(big.Rat).Mul(hi, hi)) > 0 {
			t.Errorf("Sqrt of %s = %s: not all lies in it", show(a), show(got))
		}
		lo = ratio(got.Lo)
	}
}

// parts are enclosures within one.
func parts(t *testing.T, v api.Ival) []api.Ival {
	numbers := within(t, v)
	list := []api.Ival{v}
	for i, x := range numbers {
		list = append(list, point(x), ordered(x, numbers[(i+1)%len(numbers)]))
	}
	return list
}

// P6.7
func TestInclusion(t *testing.T) {
	list := smallOnes()
	for i, a := range list {
		b := list[(i*7+4)%len(list)]
		for name, way := range twos() {
			got, why := way(a, b, 12)
			if why != api.OK {
				continue
			}
			for _, x := range parts(t, a) {
				for _, y := range parts(t, b) {
					part, why := way(x, y, 12)
					more, whyMore := way(x, y, 13)
					if why != api.OK || whyMore != api.OK || !ival.Within(part, got) || !ival.Within(more, part) {
						t.Errorf("%s: what is made of parts of %s lies not within, errors %d, %d", name, show(a, b), why, whyMore)
					}
				}
			}
		}
	}
}

// P6.8
func TestExact(t *testing.T) {
	cases := []struct {
		name string
		a, b api.Ival
		p    int
		want api.Ival
	}{
		{"Add", ints(1, 2), ints(3, 3), 3, ints(4, 5)},
		{"Add", api.Ival{Lo: of(1, 300), Hi: of(1, 300)}, ints(1, 1), 301, point(powerAnd(300, 1, 0))},
		{"Sub", ints(1, 2), ints(3, 8), 3, ints(-7, -1)},
		{"Mul", ints(-7, 9), ints(-5, 11), 7, ints(-77, 99)},
		{"Div", ints(-21, 35), ints(7, 7), 3, ints(-3, 5)},
		{"Div", ints(77, 77), point(of(7, 40)), 4, point(of(11, -40))},
	}
	for _, c := range cases {
		for _, p := range []int{c.p, c.p + 1, api.MaxWork} {
			got, why := twos()[c.name](c.a, c.b, p)
			expect(t, c.name, got, why, span{realOf(c.want.Lo), realOf(c.want.Hi)}, c.a, c.b)
		}
		if got, _ := twos()[c.name](c.a, c.b, c.p-1); isForm(got.Lo, realOf(c.want.Lo)) && isForm(got.Hi, realOf(c.want.Hi)) {
			t.Errorf("%s of %s has no need of %d bits", c.name, show(c.a, c.b), c.p)
		}
	}
	for _, n := range []int64{1, 3, 5, 11, 3037000499} {
		d := of(n, -17)
		square, _ := dyad.Mul(d, d)
		got, why := ival.Sqrt(point(square), 32)
		expect(t, "Sqrt", got, why, span{realOf(d), realOf(d)}, point(square))
	}
}

// P6.9
func TestThereAndBack(t *testing.T) {
	list := smallOnes()
	for i, a := range list {
		for _, b := range []api.Ival{list[(i*3+1)%len(list)], list[(i*11+6)%len(list)]} {
			for _, p := range []int{1, 7, 64} {
				sum, why := ival.Add(a, b, p)
				back, whyBack := ival.Sub(sum, b, p)
				if why != api.OK || whyBack != api.OK || !ival.Within(a, back) {
					t.Errorf("Sub(Add(a, b), b) of %s = %s, errors %d, %d", show(a, b), show(back), why, whyBack)
				}
				quotient, why := ival.Div(a, b, p)
				if why == api.ErrZero {
					continue
				}
				back, whyBack = ival.Mul(quotient, b, p)
				if why != api.OK || whyBack != api.OK || !ival.Within(a, back) {
					t.Errorf("Mul(Div(a, b), b) of %s = %s, errors %d, %d", show(a, b), show(back), why, whyBack)
				}
			}
		}
		checkRootTimesItself(t, a)
	}
}

func checkRootTimesItself(t *testing.T, a api.Ival) {
	t.Helper()
	for _, p := range []int{1, 7, 64} {
		root, why := ival.Sqrt(a, p)
		if why == api.ErrLess {
			continue
		}
		square, whySquare := ival.Mul(root, root, p)
		if why != api.OK || whySquare != api.OK || !ival.Within(a, square) {
			t.Errorf("the root of %s, times itself = %s, errors %d, %d", show(a), show(square), why, whySquare)
		}
	}
}

// P6.10
func TestNarrowToFewer(t *testing.T) {
	for _, a := range append(enclosures(), greatOnes()...) {
		last := true
		for _, p := range []int{0, 1, 2, 5, 40, 63, 64, 200, 65535, 65536, 1 << 40} {
			is := ival.Narrow(a, p)
			if is && !last {
				t.Errorf("%s is narrow to %d bits, but not to fewer", show(a), p)
			}
			last = is
			if !ival.Narrow(point(a.Lo), p) || !ival.Narrow(point(a.Hi), p) {
				t.Errorf("a point of %s is not narrow to %d bits", show(a), p)
			}
		}
	}
}

func TestExamples(t *testing.T) {
	check := func(what string, got api.Ival, why api.Errno, lo, hi api.Dyad) {
		t.Helper()
		if why != api.OK || !isForm(got.Lo, realOf(lo)) || !isForm(got.Hi, realOf(hi)) {
			t.Errorf("%s = %s, error %d", what, show(got), why)
		}
	}
	got, why := ival.Add(ints(1, 2), ints(3, 3), 2)
	check("Add", got, why, of(1, 2), of(3, 1))
	got, why = ival.Mul(ints(-1, 2), ints(3, 3), 8)
	check("Mul", got, why, of(-3, 0), of(3, 1))
	got, why = ival.Div(ints(1, 1), ints(3, 3), 2)
	check("Div", got, why, of(1, -2), of(3, -3))
	got, why = ival.Sqrt(ints(2, 2), 3)
	check("Sqrt", got, why, of(5, -2), of(3, -1))
	got, why = ival.Div(ints(1, 1), ints(-1, 1), 8)
	expectError(t, "Div", got, why, api.ErrZero, ints(1, 1), ints(-1, 1))
	if !ival.Narrow(ints(1, 1), 99) || ival.Narrow(ints(0, 1), 0) || !ival.Narrow(ints(8, 9), 3) || ival.Narrow(ints(8, 9), 4) {
		t.Error("Narrow")
	}
	if s, one := ival.Sign(ints(0, 1)); s != 0 || one {
		t.Error("Sign:", s, one)
	}
}
