package dyad_test

import (
	"encoding/binary"
	"math"
	"math/big"
	"slices"
	"testing"

	"ulp/api"
	"ulp/dyad"
	"ulp/probe"
)

const all = uint64(math.MaxUint64)

// scaled is a dyadic number as the tests reckon with it: whole times 2^exp, without bounds.
type scaled struct {
	whole *big.Int
	exp   int
}

func valueOf(d api.Dyad) scaled {
	bytes := make([]byte, 0, 8*len(d.Abs))
	for _, w := range slices.Backward(d.Abs) {
		bytes = binary.BigEndian.AppendUint64(bytes, w)
	}
	whole := new(big.Int).SetBytes(bytes)
	if d.Neg {
		whole.Neg(whole)
	}
	return scaled{whole, d.Exp}
}

// at is the whole number of the value at an exponent that is not above its own.
func (v scaled) at(exp int) *big.Int { return new(big.Int).Lsh(v.whole, uint(v.exp-exp)) }

func (v scaled) plus(w scaled) scaled {
	exp := min(v.exp, w.exp)
	return scaled{new(big.Int).Add(v.at(exp), w.at(exp)), exp}
}

func (v scaled) negated() scaled { return scaled{new(big.Int).Neg(v.whole), v.exp} }

func (v scaled) times(w scaled) scaled {
	return scaled{new(big.Int).Mul(v.whole, w.whole), v.exp + w.exp}
}

func (v scaled) against(w scaled) int {
	exp := min(v.exp, w.exp)
	return v.at(exp).Cmp(w.at(exp))
}

// odd is the value with its odd whole number; 0 has the exponent 0.
func (v scaled) odd() scaled {
	if v.whole.Sign() == 0 {
		return scaled{v.whole, 0}
	}
	low := v.whole.TrailingZeroBits()
	return scaled{new(big.Int).Rsh(v.whole, low), v.exp + int(low)} // (no bit 1 is lost: a negative one is rounded nowhere)
}

// hasRoom tells whether the one form is right.
func (v scaled) hasRoom() bool {
	o := v.odd()
	return o.whole.BitLen() <= 64*api.MaxLimbs && o.exp >= -api.MaxExp && o.exp <= api.MaxExp
}

func right(d api.Dyad) bool {
	return valueOf(d).whole.BitLen() <= 64*api.MaxLimbs && d.Exp >= -api.MaxExp && d.Exp <= api.MaxExp
}

// expect holds an answer against what it should be: the value in its one form, or the error that there is, alone.
func expect(t *testing.T, what string, got api.Dyad, why api.Errno, want scaled, of ...api.Dyad) {
	t.Helper()
	error := api.OK
	for _, d := range of {
		if !right(d) {
			error = api.ErrRange
		}
	}
	if error == api.OK && !want.hasRoom() {
		error = api.ErrMany
	}
	if why != error {
		t.Errorf("%s of %s: error %d, want %d", what, show(of), why, error)
		return
	}
	if error != api.OK {
		want = scaled{new(big.Int), 0}
	}
	if !inForm(got, want) {
		t.Errorf("%s of %s = %s", what, show(of), show([]api.Dyad{got}))
	}
}

// inForm tells whether a number is the one form of a value.
func inForm(d api.Dyad, v scaled) bool {
	o := v.odd()
	normal := len(d.Abs) == 0 || d.Abs[len(d.Abs)-1] != 0
	return normal && d.Exp == o.exp && d.Neg == (o.whole.Sign() < 0) && valueOf(d).whole.Cmp(o.whole) == 0
}

func show(list []api.Dyad) string {
	text := ""
	for _, d := range list {
		digits := valueOf(d).whole.Text(16)
		if len(digits) > 60 {
			digits = digits[:30] + ".." + digits[len(digits)-28:]
		}
		text += "(" + digits + " 2^" + big.NewInt(int64(d.Exp)).String() + ")"
	}
	return text
}

// P4.1
func TestForms(t *testing.T) {
	for _, d := range slices.Concat(probe.Numbers(), probe.GreatNumbers(), probe.WrongNumbers()) {
		want := api.OK
		if !right(d) {
			want = api.ErrRange
		}
		if why := dyad.Check(d); why != want {
			t.Errorf("Check%s = %d, want %d", show([]api.Dyad{d}), why, want)
		}
		if got := dyad.Zero(d); got != (right(d) && valueOf(d).whole.Sign() == 0) {
			t.Errorf("Zero%s = %v", show([]api.Dyad{d}), got)
		}
		got, why := dyad.Canon(d)
		expect(t, "Canon", got, why, valueOf(d), d)
	}
	// Right, but without room in the one form: the exponent grows by the bits 0 at the end.
	if _, why := dyad.Canon(api.Dyad{Abs: api.Nat{2}, Exp: api.MaxExp}); why != api.ErrMany {
		t.Error("Canon of 2 times 2^MaxExp: error", why)
	}
	if d, why := dyad.Canon(api.Dyad{Neg: true, Exp: api.MaxExp}); why != api.OK || d.Neg || d.Abs != nil || d.Exp != 0 {
		t.Error("Canon of 0:", d, why)
	}
}

// P4.2
func TestInt(t *testing.T) {
	for _, n := range []int64{0, 1, -1, 2, -2, 3, 12, -12, 1 << 62, math.MaxInt64, math.MinInt64, math.MinInt64 + 1} {
		expect(t, "Int", dyad.Int(n), api.OK, scaled{big.NewInt(n), 0})
	}
}

// checkTwo holds all that is done with two numbers against what it should be.
func checkTwo(t *testing.T, a, b api.Dyad) {
	t.Helper()
	x, y := valueOf(a), valueOf(b)
	if !right(a) || !right(b) { // values of such are not reckoned: their exponents may be any
		x, y = scaled{new(big.Int), 0}, scaled{new(big.Int), 0}
	}
	sum, why := dyad.Add(a, b)
	expect(t, "Add", sum, why, x.plus(y), a, b)
	rest, why := dyad.Sub(a, b)
	expect(t, "Sub", rest, why, x.plus(y.negated()), a, b)
	product, why := dyad.Mul(a, b)
	expect(t, "Mul", product, why, x.times(y), a, b)
	n, why := dyad.Cmp(a, b)
	if !right(a) || !right(b) {
		if n != 0 || why != api.ErrRange {
			t.Errorf("Cmp%s = %d, error %d, want ErrRange", show([]api.Dyad{a, b}), n, why)
		}
		return
	}
	if n != x.against(y) || why != api.OK {
		t.Errorf("Cmp%s = %d, error %d", show([]api.Dyad{a, b}), n, why)
	}
}

// P4.3, P4.4
func TestReckon(t *testing.T) {
	for _, a := range probe.Numbers() {
		for _, b := range probe.Numbers() {
			checkTwo(t, a, b)
		}
	}
	great := probe.GreatNumbers()
	for _, a := range great {
		for _, b := range great {
			checkTwo(t, a, b)
		}
	}
	for _, a := range probe.WrongNumbers() {
		for _, b := range append(probe.WrongNumbers(), api.Dyad{}, dyad.Int(3), great[0]) {
			checkTwo(t, a, b)
			checkTwo(t, b, a)
		}
	}
}

// P4.3: answers that just have room, though what is reckoned on the way may be greater; and those that just have none.
func TestRoom(t *testing.T) {
	most := probe.Filled(api.MaxLimbs, all)
	lo, hi := -api.MaxExp, api.MaxExp
	for _, two := range [][2]api.Dyad{
		{{Abs: api.Nat{1}, Exp: hi}, {Neg: true, Abs: most, Exp: lo}}, // 2^65536 less 2^65536 - 1
		{{Abs: api.Nat{1}, Exp: hi}, {Neg: true, Abs: api.Nat{1}, Exp: lo}},
		{{Abs: api.Nat{1}, Exp: hi}, {Abs: api.Nat{1}, Exp: lo}},
		{{Abs: api.Nat{1}, Exp: hi - 1}, {Abs: api.Nat{1}, Exp: lo}},
		{{Abs: api.Nat{2}, Exp: hi}, {Neg: true, Abs: most, Exp: lo}},
		{{Abs: api.Nat{2}, Exp: hi}, {Neg: true, Abs: api.Nat{1}, Exp: hi}},
		{{Abs: api.Nat{3}, Exp: hi}, {Neg: true, Abs: api.Nat{1}, Exp: hi}},
		{{Abs: api.Nat{3}, Exp: hi}, {Neg: true, Abs: api.Nat{3}, Exp: hi}},
		{{Abs: api.Nat{3}, Exp: lo}, {Neg: true, Abs: api.Nat{1}, Exp: lo}},
		{{Abs: api.Nat{3}, Exp: hi - 1}, {Neg: true, Abs: most, Exp: lo}},
		{{Abs: probe.Power2(64), Exp: hi - 64}, {Neg: true, Abs: most, Exp: lo}},
		{{Abs: most}, {Abs: most}}, // the sum has one bit more, and its last bit is 0
		{{Abs: most, Exp: hi}, {Abs: most, Exp: hi}},
		{{Abs: most}, {Abs: api.Nat{1}}},
		{{Abs: most}, {Abs: api.Nat{1}, Exp: -1}},
		{{Abs: most}, {Abs: api.Nat{1}, Exp: 1}},
		{{Abs: most, Exp: -1}, {Abs: api.Nat{1}}},
	} {
		for _, turned := range []bool{false, true} {
			a, b := two[0], two[1]
			a.Neg, b.Neg = a.Neg != turned, b.Neg != turned
			checkTwo(t, a, b)
			checkTwo(t, b, a)
		}
	}
	if d, why := dyad.Add(api.Dyad{Abs: api.Nat{1}, Exp: hi}, api.Dyad{Neg: true, Abs: most, Exp: lo}); why != api.OK || !inForm(d, scaled{big.NewInt(1), lo}) {
		t.Error("2^MaxExp less all below it:", d, why)
	}
}

// P4.3
func TestSignsAndShifts(t *testing.T) {
	shifts := []int{0, 1, -1, 64, -64, 1000, api.MaxExp, -api.MaxExp, 2 * api.MaxExp, -2 * api.MaxExp}
	for _, d := range slices.Concat(probe.Numbers(), probe.GreatNumbers(), probe.WrongNumbers()) {
		v := valueOf(d)
		got, why := dyad.Neg(d)
		expect(t, "Neg", got, why, v.negated(), d)
		got, why = dyad.Abs(d)
		expect(t, "Abs", got, why, scaled{new(big.Int).Abs(v.whole), v.exp}, d)
		for _, n := range shifts {
			got, why := dyad.Shift(d, n)
			expect(t, "Shift", got, why, scaled{v.whole, v.exp + n}, d)
		}
		for _, n := range []int{2*api.MaxExp + 1, -2*api.MaxExp - 1, math.MaxInt, math.MinInt} {
			if got, why := dyad.Shift(d, n); why != api.ErrRange || got.Neg || got.Abs != nil || got.Exp != 0 {
				t.Errorf("Shift by %d: %v, error %d, want ErrRange", n, got, why)
			}
		}
	}
}

// P4.4
func TestSizeAndTop(t *testing.T) {
	for _, d := range slices.Concat(probe.Numbers(), probe.GreatNumbers(), probe.WrongNumbers()) {
		size, why := dyad.Size(d)
		top, whyTop := dyad.Top(d)
		o := valueOf(d).odd()
		want := api.OK
		switch {
		case !right(d):
			want = api.ErrRange
		case o.whole.Sign() == 0:
			want = api.ErrWhole
		}
		if why != want || whyTop != want {
			t.Errorf("Size, Top%s: errors %d, %d, want %d", show([]api.Dyad{d}), why, whyTop, want)
		}
		if want != api.OK {
			o = scaled{new(big.Int), 1}
		}
		if size != o.whole.BitLen() || top != o.exp+o.whole.BitLen()-1 {
			t.Errorf("Size, Top%s = %d, %d", show([]api.Dyad{d}), size, top)
		}
	}
}

// cutValue is the greatest value of at most p bits that is at most v; of amounts from 0 up.
func cutValue(v scaled, p int, up bool) scaled {
	o := v.odd()
	spare := o.whole.BitLen() - p
	if spare <= 0 {
		return o
	}
	whole := new(big.Int).Rsh(o.whole, uint(spare)) // (rounds down, below 0 too)
	if up {
		whole.Add(whole, big.NewInt(1))
	}
	return scaled{whole, o.exp + spare}
}

// P4.5, P4.9
func TestCut(t *testing.T) {
	for _, d := range slices.Concat(probe.Numbers(), probe.GreatNumbers(), probe.WrongNumbers()) {
		bits := valueOf(d).odd().whole.BitLen()
		for _, p := range []int{1, 2, 3, 53, 63, 64, 65, bits - 1, bits, bits + 1, math.MaxInt} {
			for _, up := range []bool{false, true} {
				if p < 1 {
					continue
				}
				got, why := dyad.Cut(d, p, up)
				expect(t, "Cut", got, why, cutValue(valueOf(d), p, up), d)
			}
		}
		for _, p := range []int{0, -1, math.MinInt} {
			if got, why := dyad.Cut(d, p, true); why != api.ErrRange || got.Neg || got.Abs != nil || got.Exp != 0 {
				t.Errorf("Cut%s to %d bits: error %d, want ErrRange", show([]api.Dyad{d}), p, why)
			}
		}
	}
	// Up to one bit it is the next power of 2, which may be past the limit.
	if _, why := dyad.Cut(api.Dyad{Abs: api.Nat{3}, Exp: api.MaxExp}, 1, true); why != api.ErrMany {
		t.Error("Cut past the limit: error", why)
	}
	if got, why := dyad.Cut(api.Dyad{Abs: api.Nat{2}, Exp: api.MaxExp}, 9, false); why != api.ErrMany || got.Abs != nil {
		t.Error("Cut of what has no room: error", why)
	}
}

// P4.9: between the two cuts lies no number of so many bits.
func TestCutNext(t *testing.T) {
	for n := int64(-600); n <= 600; n++ {
		for p := 1; p <= 11; p++ {
			down, up := n, n
			for bitsOf(down) > p {
				down--
			}
			for bitsOf(up) > p {
				up++
			}
			got, why := dyad.Cut(dyad.Int(n), p, false)
			expect(t, "Cut down", got, why, scaled{big.NewInt(down), 0})
			got, why = dyad.Cut(dyad.Int(n), p, true)
			expect(t, "Cut up", got, why, scaled{big.NewInt(up), 0})
		}
	}
}

func bitsOf(n int64) int { return scaled{big.NewInt(n), 0}.odd().whole.BitLen() }

// P4.5, P4.10
func TestFloor(t *testing.T) {
	list := slices.Concat(probe.Numbers(), probe.GreatNumbers(), probe.WrongNumbers())
	for n := int64(-70); n <= 70; n++ {
		d := dyad.Int(n)
		d.Exp -= 3
		list = append(list, d)
	}
	for _, d := range list {
		whole, rest, why := dyad.Floor(d)
		if why == api.OK && rest.Neg || !right(d) && (rest.Abs != nil || whole.Abs != nil) {
			t.Errorf("Floor%s = %s, error %d", show([]api.Dyad{d}), show([]api.Dyad{whole, rest}), why)
		}
		if !right(d) {
			expect(t, "Floor", whole, why, valueOf(d), d)
			continue
		}
		v := valueOf(d)
		want := v
		if v.exp < 0 {
			want = scaled{new(big.Int).Rsh(v.whole, uint(-v.exp)), 0}
		}
		expect(t, "Floor", whole, why, want, d)
		if why == api.OK {
			expect(t, "Floor's rest", rest, why, v.plus(want.negated()), d)
			if n, _ := dyad.Cmp(rest, dyad.Int(1)); n >= 0 {
				t.Errorf("Floor%s leaves %s", show([]api.Dyad{d}), show([]api.Dyad{rest}))
			}
			sum, why := dyad.Add(whole, rest)
			expect(t, "Floor's sum", sum, why, v, d)
		}
	}
	if whole, rest, why := dyad.Floor(api.Dyad{Abs: api.Nat{2}, Exp: api.MaxExp}); why != api.ErrMany || whole.Abs != nil || rest.Abs != nil {
		t.Error("Floor of what has no room:", whole, rest, why)
	}
}

// P4.7
func TestRing(t *testing.T) {
	s := probe.Source(2)
	add := func(a, b api.Dyad) api.Dyad { c, _ := dyad.Add(a, b); return c }
	sub := func(a, b api.Dyad) api.Dyad { c, _ := dyad.Sub(a, b); return c }
	mul := func(a, b api.Dyad) api.Dyad { c, _ := dyad.Mul(a, b); return c }
	for range 1000 {
		a, b, c := s.Number(), s.Number(), s.Number()
		canon, _ := dyad.Canon(a)
		n := s.Below(1000) - 500
		shifted, _ := dyad.Shift(a, n)
		back, _ := dyad.Shift(shifted, -n)
		for i, two := range [][2]api.Dyad{
			{add(a, add(b, c)), add(add(a, b), c)},
			{add(a, b), add(b, a)},
			{mul(a, mul(b, c)), mul(mul(a, b), c)},
			{mul(a, b), mul(b, a)},
			{mul(a, add(b, c)), add(mul(a, b), mul(a, c))},
			{add(sub(a, b), b), canon},
			{back, canon},
		} {
			if !same(two[0], two[1]) {
				t.Errorf("law %d of %s", i, show([]api.Dyad{a, b, c}))
			}
		}
		order, _ := dyad.Cmp(a, b)
		if order != valueOf(sub(a, b)).whole.Sign() {
			t.Errorf("Cmp%s is %d", show([]api.Dyad{a, b}), order)
		}
	}
}

// same tells whether two answers are one, bit by bit.
func same(a, b api.Dyad) bool {
	return a.Neg == b.Neg && a.Exp == b.Exp && slices.Equal(a.Abs, b.Abs)
}

// P4.6
func TestNewMemory(t *testing.T) {
	for _, a := range []api.Dyad{{Abs: api.Nat{7}}, {Neg: true, Abs: api.Nat{all, all, 0}, Exp: -70}, {Abs: api.Nat{0, 5}, Exp: -3}, {Abs: api.Nat{1}, Exp: 90}} {
		for _, b := range []api.Dyad{{}, {Abs: api.Nat{1, 0}}, {Abs: api.Nat{9}, Exp: -2}} {
			x, y := a, b
			x.Abs, y.Abs = slices.Clone(a.Abs), slices.Clone(b.Abs)
			var answers []api.Nat
			keep := func(d api.Dyad, why api.Errno) { answers = append(answers, d.Abs) }
			for _, two := range [][2]api.Dyad{{x, y}, {y, x}, {x, x}} {
				keep(dyad.Add(two[0], two[1]))
				keep(dyad.Sub(two[0], two[1]))
				keep(dyad.Mul(two[0], two[1]))
			}
			keep(dyad.Canon(x))
			keep(dyad.Neg(x))
			keep(dyad.Abs(x))
			keep(dyad.Shift(x, 3))
			keep(dyad.Cut(x, 2, true))
			keep(dyad.Cut(x, 999, true))
			whole, rest, why := dyad.Floor(x)
			keep(whole, why)
			keep(rest, why)
			keep(dyad.From(0x3ff8000000000000))
			keep(dyad.From(0x3ff8000000000000))
			keep(dyad.Int(9), api.OK)
			keep(dyad.Int(9), api.OK)
			if !probe.Apart(answers, x.Abs, y.Abs) {
				t.Errorf("answers of %v, %v share memory", a, b)
			}
			dyad.Check(x)
			dyad.Zero(x)
			dyad.To(x)
			dyad.Cmp(x, y)
			dyad.Size(x)
			dyad.Top(x)
			if !same(x, a) || !same(y, b) {
				t.Errorf("%v, %v became %v, %v", a, b, x, y)
			}
		}
	}
}

// The chapter's examples.
func TestExamples(t *testing.T) {
	is := func(what string, got api.Dyad, whole int64, exp int) {
		t.Helper()
		if !inForm(got, scaled{big.NewInt(whole), exp}) {
			t.Errorf("%s = %v", what, got)
		}
	}
	d, _ := dyad.Canon(api.Dyad{Abs: api.Nat{12}})
	is("Canon(12)", d, 3, 2)
	d, _ = dyad.Canon(api.Dyad{Neg: true, Abs: api.Nat{0}})
	is("Canon(-0)", d, 0, 0)
	d, _ = dyad.Add(api.Dyad{Abs: api.Nat{3}, Exp: -1}, api.Dyad{Abs: api.Nat{1}, Exp: -1})
	is("Add", d, 1, 1)
	d, _ = dyad.Mul(dyad.Int(-3), api.Dyad{Abs: api.Nat{5}, Exp: 4})
	is("Mul", d, -15, 4)
	d, _ = dyad.Cut(dyad.Int(11), 2, false)
	is("Cut down", d, 1, 3)
	d, _ = dyad.Cut(dyad.Int(11), 2, true)
	is("Cut up", d, 3, 2)
	d, _ = dyad.Cut(dyad.Int(-11), 2, false)
	is("Cut of -11 down", d, -3, 2)
	whole, rest, _ := dyad.Floor(api.Dyad{Neg: true, Abs: api.Nat{3}, Exp: -1})
	is("Floor", whole, -1, 1)
	is("Floor's rest", rest, 1, -1)
}
