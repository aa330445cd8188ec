package reduce_test

import (
	"math/big"
	"reflect"
	"slices"
	"testing"

	"ulp/api"
	"ulp/dyad"
	"ulp/ival"
	"ulp/probe"
	"ulp/reduce"
)

// numbers are right: edges, halves and quarters and eighths with what lies beside them, numbers at the limits of size and exponent.
func numbers() []api.Dyad {
	list := slices.Concat(probe.Numbers(), probe.GreatNumbers(), amounts())
	for n := uint64(1); n < 40; n++ {
		for exp := -3; exp <= 1; exp++ {
			d := of(n, exp)
			list = append(list, d, sum(d, of(1, -api.MaxExp)), sum(d, less(of(1, -api.MaxExp))), sum(d, of(1, 3000)), sum(d, of(1, -60)))
		}
	}
	for exp := -5; exp < 3; exp++ {
		for _, words := range []int{1, 2, 512, api.MaxLimbs} {
			list = append(list, api.Dyad{Abs: probe.Filled(words, all), Exp: exp}, api.Dyad{Abs: append(api.Nat{1}, probe.Filled(words-1, all)...), Exp: exp}, api.Dyad{Abs: append(api.Nat{5}, probe.Filled(words-1, 0)...), Exp: exp})
		}
		// These lie next to 2^40000, which has no room.
		great := probe.Power2(40003)
		great[0] = uint64(exp + 7)
		list = append(list, api.Dyad{Abs: great, Exp: exp}, api.Dyad{Abs: probe.Filled(626, all), Exp: exp})
	}
	return bothSigns(list)
}

// exactly is a dyadic number as a quotient of whole numbers.
func exactly(d api.Dyad) *big.Rat {
	x := new(big.Rat).SetInt(whole(d.Abs))
	power := new(big.Int).Lsh(big.NewInt(1), uint(max(d.Exp, -d.Exp)))
	switch {
	case d.Exp >= 0:
		x.SetInt(power.Mul(power, x.Num()))
	default:
		x.SetFrac(x.Num(), power)
	}
	if d.Neg {
		x.Neg(x)
	}
	return x
}

// roundEven is the nearest whole number, of two the even one: what x and a half has below it, less 1 where that is odd and x lies between.
func roundEven(x *big.Rat) *big.Int {
	more := new(big.Rat).Add(x, big.NewRat(1, 2))
	n, rest := new(big.Int).DivMod(more.Num(), more.Denom(), new(big.Int))
	if rest.Sign() == 0 && n.Bit(0) == 1 {
		n.Sub(n, big.NewInt(1))
	}
	return n
}

// dyadOf is a quotient by a power of 2 in its one form; false, if that has no room.
func dyadOf(x *big.Rat) (api.Dyad, bool) {
	n, exp := new(big.Int).Abs(x.Num()), 1-x.Denom().BitLen()
	if n.Sign() == 0 {
		return api.Dyad{}, true
	}
	low := int(n.TrailingZeroBits())
	n.Rsh(n, uint(low))
	exp += low
	d := api.Dyad{Neg: x.Sign() < 0, Exp: exp}
	for ; n.Sign() > 0; n.Rsh(n, 64) {
		d.Abs = append(d.Abs, new(big.Int).And(n, new(big.Int).SetUint64(all)).Uint64())
	}
	return d, len(d.Abs) <= api.MaxLimbs && exp >= -api.MaxExp && exp <= api.MaxExp
}

// same tells whether two numbers in their one form are one, an empty list being as good as none.
func same(a, b api.Dyad) bool {
	return a.Neg == b.Neg && a.Exp == b.Exp && slices.Equal(a.Abs, b.Abs)
}

// unfit is the error of a number that is not right, or whose one form has no room.
func unfit(d api.Dyad) api.Errno {
	_, why := dyad.Canon(d)
	return why
}

// checkTurns holds what Turns answers against whole numbers.
func checkTurns(t *testing.T, x api.Dyad) {
	t.Helper()
	n, rest, why := reduce.Turns(x)
	if want := unfit(x); want != api.OK {
		if why != want || n != 0 || !reflect.DeepEqual(rest, api.Dyad{}) {
			t.Errorf("Turns of %d words, exponent %d: %d, error %d, want %d", len(x.Abs), x.Exp, n, why, want)
		}
		return
	}
	exact := exactly(x)
	halves := roundEven(new(big.Rat).Mul(exact, big.NewRat(2, 1)))
	left, _ := dyadOf(exact.Sub(exact, new(big.Rat).SetFrac(halves, big.NewInt(2))))
	if four := int(new(big.Int).And(halves, big.NewInt(3)).Int64()); why != api.OK || n != four || !same(rest, left) {
		t.Errorf("Turns of %d words, exponent %d: %d, %s, error %d, want %d, %s", len(x.Abs), x.Exp, n, show(rest), why, four, show(left))
	}
}

// P14.2
func TestTurns(t *testing.T) {
	for _, d := range slices.Concat(numbers(), bothSigns(probe.WrongNumbers())) {
		checkTurns(t, d)
	}
}

// P14.2, P14.8: whole numbers of turns lie behind, even where their number has no room.
func TestTurnsOfGreat(t *testing.T) {
	for _, d := range []api.Dyad{of(1, api.MaxExp), of(3, api.MaxExp), of(1, api.MaxExp-1), {Abs: probe.Filled(api.MaxLimbs, all), Exp: api.MaxExp}} {
		for _, x := range []api.Dyad{d, less(d)} {
			if n, rest, why := reduce.Turns(x); n != 0 || !reflect.DeepEqual(rest, api.Dyad{}) || why != api.OK {
				t.Errorf("Turns of %d words, exponent %d: %d, %s, error %d", len(x.Abs), x.Exp, n, show(rest), why)
			}
		}
	}
	great := probe.Power2(40002)
	great[0] = 1
	quarter := api.Dyad{Abs: great, Exp: -2} // 2^40000 and a quarter: as far from the half as from the whole
	if n, rest, why := reduce.Turns(quarter); n != 0 || !same(rest, of(1, -2)) || why != api.OK {
		t.Errorf("Turns(2^40000 + 1/4) = %d, %s, error %d", n, show(rest), why)
	}
}

// checkSplit holds what Split answers against whole numbers.
func checkSplit(t *testing.T, x api.Dyad) {
	t.Helper()
	n, rest, why := reduce.Split(x)
	want := unfit(x)
	var next, left api.Dyad
	if want == api.OK {
		exact, room := exactly(x), false
		round := new(big.Rat).SetInt(roundEven(exact))
		left, _ = dyadOf(exact.Sub(exact, round))
		if next, room = dyadOf(round); !room {
			next, left, want = api.Dyad{}, api.Dyad{}, api.ErrMany
		}
	}
	if why != want || !same(n, next) || !same(rest, left) {
		t.Errorf("Split of %d words, exponent %d: error %d, want %d, %v", len(x.Abs), x.Exp, why, want, same(n, next) && same(rest, left))
	}
}

// P14.3
func TestSplit(t *testing.T) {
	for _, d := range slices.Concat(numbers(), bothSigns(probe.WrongNumbers())) {
		checkSplit(t, d)
	}
}

// P14.3: a whole number without room, one next to it that has some; and the other way round.
func TestSplitNoRoom(t *testing.T) {
	power := api.Dyad{Abs: probe.Filled(625, all), Exp: -1} // 2^39999 less a half
	if _, _, why := reduce.Split(power); why != api.ErrMany {
		t.Errorf("next to 2^39999: error %d, want ErrMany", why)
	}
	great := probe.Power2(40002)
	great[0] = 3
	if n, rest, why := reduce.Split(api.Dyad{Abs: great, Exp: -2}); why != api.OK || len(n.Abs) != 626 || n.Exp != 0 || !same(rest, less(of(1, -2))) {
		t.Errorf("2^40000 and 3/4: %s, error %d", show(rest), why)
	}
	great[0] = 1
	for _, d := range bothSigns([]api.Dyad{{Abs: great, Exp: -2}}) {
		if n, rest, why := reduce.Split(d); why != api.ErrMany || !reflect.DeepEqual(n, api.Dyad{}) || !reflect.DeepEqual(rest, api.Dyad{}) {
			t.Errorf("2^40000 and 1/4: %s, error %d", show(rest), why)
		}
	}
}

// checkScale holds what Scale answers against quotients of whole numbers.
func checkScale(t *testing.T, x api.Dyad) {
	t.Helper()
	k, m, why := reduce.Scale(x)
	want := unfit(x)
	var power int
	var near api.Dyad
	if exact := exactlyRight(x, want); want == api.OK && exact.Sign() <= 0 {
		want = api.ErrWhole
	} else if want == api.OK {
		room := false
		if power, near, room = scaled(exact); !room {
			power, near, want = 0, api.Dyad{}, api.ErrMany
		}
	}
	if why != want || k != power || !same(m, near) {
		t.Errorf("Scale of %d words, exponent %d: %d, error %d, want %d, error %d", len(x.Abs), x.Exp, k, why, power, want)
	}
}

// exactlyRight is a number of which nothing is wrong.
func exactlyRight(d api.Dyad, why api.Errno) *big.Rat {
	if why != api.OK {
		return new(big.Rat)
	}
	return exactly(d)
}

// scaled is the power of 2 next to a number above 0, and how many times that it is.
func scaled(x *big.Rat) (power int, near api.Dyad, room bool) {
	power = x.Num().BitLen() - x.Denom().BitLen() - 1
	for quotient(x, power).Cmp(big.NewRat(3, 2)) >= 0 {
		power++
	}
	near, room = dyadOf(quotient(x, power))
	return power, near, room
}

// quotient is x divided by 2^n.
func quotient(x *big.Rat, n int) *big.Rat {
	power := new(big.Rat).SetInt(new(big.Int).Lsh(big.NewInt(1), uint(max(n, -n))))
	if n < 0 {
		return power.Mul(x, power)
	}
	return power.Quo(x, power)
}

// P14.3
func TestScale(t *testing.T) {
	list := slices.Concat(numbers(), bothSigns(probe.WrongNumbers()), zeros)
	for _, n := range []int{-1074, -64, -1, 0, 1, 63, 1023, api.MaxExp - 2} {
		for _, d := range []api.Dyad{of(3, n-2), of(3, n-1)} { // 3/4 and 3/2 times a power of 2
			list = append(list, d)
			if n < 20000 {
				list = append(list, sum(d, less(of(1, -5000))), sum(d, of(1, -5000)))
			}
		}
	}
	for _, d := range list {
		checkScale(t, d)
	}
}

// P14.3: numbers of as many bits as a number near 1 has room for, and of one more.
func TestScaleNoRoom(t *testing.T) {
	long := probe.Power2(api.MaxExp)
	long[0] = 1
	filled := probe.Filled(512, all) // just so many bits, but from 3/2 times a power of 2 on
	for exp := -api.MaxExp; exp <= api.MaxExp; exp += api.MaxExp / 2 {
		for _, abs := range []api.Nat{long, filled} {
			if k, m, why := reduce.Scale(api.Dyad{Abs: abs, Exp: exp}); why != api.OK || k != exp+api.MaxExp || m.Exp != -api.MaxExp || !slices.Equal(m.Abs, abs) {
				t.Errorf("Scale of %d words, exponent %d: %d, error %d", len(abs), exp, k, why)
			}
		}
		for _, abs := range []api.Nat{append(slices.Clone(filled), 1), append(slices.Clone(long[:512]), 2), probe.Filled(api.MaxLimbs, all)} {
			if k, m, why := reduce.Scale(api.Dyad{Abs: abs, Exp: exp}); why != api.ErrMany || k != 0 || !reflect.DeepEqual(m, api.Dyad{}) {
				t.Errorf("Scale of %d words, exponent %d: %d, error %d, want ErrMany", len(abs), exp, k, why)
			}
		}
	}
}

// P14.5, P14.6: what Turns and Split leave is little; put together, all is as it was.
func TestTogether(t *testing.T) {
	for _, x := range numbers() {
		d, why := dyad.Canon(x)
		if why != api.OK {
			continue
		}
		if n, rest, _ := reduce.Turns(x); !within(rest, of(1, -2)) || !halvesOf(n, rest, d) {
			t.Errorf("Turns(%s) = %d, %s", show(x), n, show(rest))
		}
		if n, rest, why := reduce.Split(x); why == api.OK && (!within(rest, of(1, -1)) || !same(sum(n, rest), d)) {
			t.Errorf("Split(%s) = %s, %s", show(x), show(n), show(rest))
		}
		if k, m, why := reduce.Scale(x); why == api.OK && !same(api.Dyad{Neg: m.Neg, Abs: m.Abs, Exp: m.Exp + k}, d) {
			t.Errorf("Scale(%s) = %d, %s", show(x), k, show(m))
		}
	}
}

// within tells whether a number's amount is at most a bound.
func within(d, bound api.Dyad) bool {
	return ival.Has(api.Ival{Lo: less(bound), Hi: bound}, d)
}

// halvesOf tells whether some number of halves, which is n by 4, and what is left are x.
func halvesOf(n int, rest, x api.Dyad) bool {
	halves := new(big.Rat).Sub(exactly(x), exactly(rest))
	halves.Mul(halves, big.NewRat(2, 1))
	return halves.IsInt() && int(new(big.Int).And(halves.Num(), big.NewInt(3)).Int64()) == n
}

// P14.8
func TestTurnsOfMore(t *testing.T) {
	for _, x := range numbers() {
		more, why := dyad.Add(x, of(2, 0))
		if why != api.OK {
			continue
		}
		n, rest, why := reduce.Turns(x)
		m, left, whyToo := reduce.Turns(more)
		if why == api.OK && (whyToo != api.OK || n != m || !same(rest, left)) {
			t.Errorf("Turns(%s) = %d, %s, of 2 more %d, %s", show(x), n, show(rest), m, show(left))
		}
	}
}

// P14.1 to P14.3: whatever is handed in, there is an answer: an error alone, or numbers in their one form.
func TestAnything(t *testing.T) {
	form := func(d api.Dyad) bool {
		c, why := dyad.Canon(d)
		return why == api.OK && reflect.DeepEqual(c, d)
	}
	none := func(d api.Dyad) bool { return reflect.DeepEqual(d, api.Dyad{}) }
	for _, d := range slices.Concat(numbers(), bothSigns(probe.WrongNumbers())) {
		if n, rest, why := reduce.Turns(d); why == api.OK && (n < 0 || n > 3 || !form(rest)) || why != api.OK && (n != 0 || !none(rest)) {
			t.Errorf("Turns of %d words, exponent %d: %d, error %d", len(d.Abs), d.Exp, n, why)
		}
		if k, m, why := reduce.Scale(d); why == api.OK && !form(m) || why != api.OK && (k != 0 || !none(m)) {
			t.Errorf("Scale of %d words, exponent %d: %d, error %d", len(d.Abs), d.Exp, k, why)
		}
		if n, rest, why := reduce.Split(d); why == api.OK && (!form(n) || !form(rest)) || why != api.OK && (!none(n) || !none(rest)) {
			t.Errorf("Split of %d words, exponent %d: error %d", len(d.Abs), d.Exp, why)
		}
		for _, p := range append([]int{api.MinBits, 70}, wrongBits...) {
			if n, v, why := reduce.Quarter(d, p); why == api.OK && (n < 0 || n > 3 || !isForm(v) || !ival.Narrow(v, p)) || why != api.OK && (n != 0 || !reflect.DeepEqual(v, api.Ival{})) {
				t.Errorf("Quarter of %d words, exponent %d, to %d bits: %d, error %d", len(d.Abs), d.Exp, p, n, why)
			}
		}
	}
}

// P14.4
func TestNewMemory(t *testing.T) {
	list := bothSigns([]api.Dyad{{}, of(1, 0), of(12, -4), of(5, -1), of(7, 1000), {Abs: api.Nat{0, 6, 0}, Exp: -65}, {Abs: probe.Filled(20, all), Exp: -1270}, {Abs: probe.Filled(20, all), Exp: -1281}, of(1, -5000), {Abs: append(api.Nat{1}, probe.Filled(20, 0)...), Exp: -5000}, {Abs: probe.Filled(20, all), Exp: -300}})
	for _, d := range list {
		for _, p := range []int{api.MinBits, 64, 500} {
			was := slices.Clone(d.Abs)
			d.Abs = slices.Grow(slices.Clone(d.Abs), 4)
			var answers []api.Nat
			for range 2 {
				_, v, _ := reduce.Quarter(d, p)
				_, rest, _ := reduce.Turns(d)
				_, m, _ := reduce.Scale(d)
				n, left, _ := reduce.Split(d)
				answers = append(answers, v.Lo.Abs, v.Hi.Abs, rest.Abs, m.Abs, n.Abs, left.Abs)
			}
			if !probe.Apart(answers, d.Abs) {
				t.Errorf("answers of %s share memory", show(d))
			}
			if !slices.Equal(d.Abs, was) {
				t.Errorf("%v became %v", was, d.Abs)
			}
		}
	}
}

// The chapter's examples.
func TestExamples(t *testing.T) {
	if n, v, why := reduce.Quarter(api.Dyad{}, 8); n != 0 || why != api.OK || !reflect.DeepEqual(v, api.Ival{}) {
		t.Errorf("Quarter(0, 8) = %d, %v, error %d", n, v, why)
	}
	for _, c := range []struct {
		x    int64
		want int
		left float64
	}{{1, 1, -0.5707963267948966}, {3, 2, -0.14159265358979312}, {-1, 3, 0.5707963267948966}} {
		n, v, why := reduce.Quarter(dyad.Int(c.x), 8)
		near := api.Ival{Lo: number(big.NewFloat(c.left - 1e-12)), Hi: number(big.NewFloat(c.left + 1e-12))}
		if n != c.want || why != api.OK || !ival.Narrow(v, 8) || !ival.Meets(v, near) {
			t.Errorf("Quarter(%d, 8) = %d, %s, error %d", c.x, n, showIval(v), why)
		}
	}
	refusedQuarter(t, of(1, 1024), 8, api.ErrMany)
	for _, c := range []struct {
		x    api.Dyad
		n    int
		left api.Dyad
	}{{of(5, -2), 2, of(1, -2)}, {of(3, -2), 2, less(of(1, -2))}, {less(of(1, 0)), 2, api.Dyad{}}} {
		if n, left, why := reduce.Turns(c.x); n != c.n || !same(left, c.left) || why != api.OK {
			t.Errorf("Turns(%s) = %d, %s, error %d", show(c.x), n, show(left), why)
		}
	}
	if k, m, why := reduce.Scale(dyad.Int(3)); k != 2 || !same(m, of(3, -2)) || why != api.OK {
		t.Errorf("Scale(3) = %d, %s, error %d", k, show(m), why)
	}
	if k, m, why := reduce.Scale(dyad.Int(2)); k != 1 || !same(m, of(1, 0)) || why != api.OK {
		t.Errorf("Scale(2) = %d, %s, error %d", k, show(m), why)
	}
	if n, left, why := reduce.Split(of(5, -1)); !same(n, of(1, 1)) || !same(left, of(1, -1)) || why != api.OK {
		t.Errorf("Split(5/2) = %s, %s, error %d", show(n), show(left), why)
	}
}
