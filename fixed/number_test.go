package fixed_test

import (
	"math/big"
	"reflect"
	"slices"
	"testing"

	"ulp/api"
	"ulp/fixed"
	"ulp/probe"
)

// float is a number as the tests reckon with it, exactly.
func float(x fixed.Number) *big.Float {
	n := new(big.Int)
	for _, w := range slices.Backward(x.Abs) {
		n.Lsh(n, 64).Or(n, new(big.Int).SetUint64(w))
	}
	return new(big.Float).SetMantExp(new(big.Float).SetInt(n), x.Exp)
}

// cut is where a float of w bits goes that is rounded down or up.
func cut(w int, up bool) *big.Float {
	mode := big.ToNegativeInf
	if up {
		mode = big.ToPositiveInf
	}
	return new(big.Float).SetPrec(uint(w)).SetMode(mode)
}

// number is one of at most four words; many lie near a power of 2, some are 0.
func number(s *probe.Source, far int) fixed.Number {
	return fixed.Number{Abs: s.Natural(s.Below(5)), Exp: s.Below(far) - far/2}
}

func same(t *testing.T, what string, got fixed.Number, want *big.Float) {
	t.Helper()
	if float(got).Cmp(want) != 0 {
		t.Errorf("%s = %s, want %s", what, float(got).Text('p', 0), want.Text('p', 0))
	}
}

// What is reckoned is the next number of w bits, the way that is asked for.
func TestNextNumbers(t *testing.T) {
	s := probe.Source(1)
	for i := range 4000 {
		far := []int{10, 100, 1000, 1 << 20}[i%4]
		x, y, w := number(&s, far), number(&s, far), 1+s.Below(150)
		for _, up := range []bool{false, true} {
			same(t, "Cut", x.Cut(w, up), cut(w, up).Set(float(x)))
			same(t, "Plus", x.Plus(y, w, up), cut(w, up).Add(float(x), float(y)))
			same(t, "Times", x.Times(y, w, up), cut(w, up).Mul(float(x), float(y)))
			if !y.Zero() {
				quotient := cut(w, up).Quo(cut(w, up).Set(float(x)), cut(w, !up).Set(float(y)))
				same(t, "Over", x.Over(y, w, up), quotient)
			}
		}
		same(t, "Scale", x.Scale(far), new(big.Float).SetMantExp(float(x), far))
		if x.Zero() != (float(x).Sign() == 0) {
			t.Error("Zero:", x)
		}
		if want := float(x).MantExp(nil) - 1; !x.Zero() && x.Top() != want {
			t.Errorf("Top of %v = %d, want %d", x, x.Top(), want)
		}
	}
}

// A sum with a number that is nearer to 0 than any bit that stays: all that is told of it is that it is there.
func TestPlusLittle(t *testing.T) {
	s := probe.Source(2)
	for range 2000 {
		x, w := number(&s, 10), 1+s.Below(300)
		little := fixed.Number{Abs: append(s.Natural(s.Below(3)), 1), Exp: -s.Below(800)}
		for _, up := range []bool{false, true} {
			want := cut(w, up).Add(float(x), float(little))
			same(t, "Plus", x.Plus(little, w, up), want)
			same(t, "Plus, turned", little.Plus(x, w, up), want)
		}
	}
}

// The root, down, has a square that is at most x, and the next number of w bits has one above; up, likewise.
func TestRoot(t *testing.T) {
	square := func(x *big.Float) *big.Float { return new(big.Float).SetPrec(1000).Mul(x, x) }
	s := probe.Source(3)
	for range 2000 {
		x, w := number(&s, 1000), 2+s.Below(150)
		down, up := float(x.Root(w, false)), float(x.Root(w, true))
		exact := float(x)
		if square(down).Cmp(exact) > 0 || square(up).Cmp(exact) < 0 {
			t.Errorf("Root of %s to %d bits: %s, %s", exact.Text('p', 0), w, down.Text('p', 0), up.Text('p', 0))
		}
		if down.MinPrec() > uint(w) || up.MinPrec() > uint(w) {
			t.Errorf("Root of %s has more than %d bits", exact.Text('p', 0), w)
		}
		if square(down).Cmp(exact) == 0 {
			same(t, "a root that is known", x.Root(w, true), down)
			continue
		}
		next := new(big.Float).SetMantExp(big.NewFloat(1), down.MantExp(nil)-w)
		if next.SetPrec(1000).Add(next, down).Cmp(up) != 0 {
			t.Errorf("Root of %s to %d bits: %s and %s are not next to one another", exact.Text('p', 0), w, down.Text('p', 0), up.Text('p', 0))
		}
	}
}

// 0 has no exponent, however often it is multiplied.
func TestZero(t *testing.T) {
	zero, one := fixed.Number{Exp: -77}, fixed.Whole(1)
	for _, x := range []fixed.Number{zero.Cut(5, true), zero.Times(one, 5, true), zero.Over(one, 5, true), zero.Root(5, true), zero.Plus(zero, 5, true), one.Times(zero, 5, false)} {
		if !reflect.DeepEqual(x, fixed.Number{}) {
			t.Error("0 became", x)
		}
	}
	same(t, "1 + 0", one.Plus(zero, 5, true), big.NewFloat(1))
	same(t, "0 + 1", zero.Plus(one, 5, true), big.NewFloat(1))
}

// A number of a dyadic one is its amount; words 0 at its end are left out, and no memory is shared.
func TestOf(t *testing.T) {
	d := api.Dyad{Neg: true, Abs: api.Nat{12, 0, 5, 0, 0}, Exp: -70}
	x := fixed.Of(d)
	if !reflect.DeepEqual(x, fixed.Number{Abs: api.Nat{12, 0, 5}, Exp: -70}) || !probe.Apart([]api.Nat{x.Abs}, d.Abs) {
		t.Error("Of:", x)
	}
	if !reflect.DeepEqual(fixed.Whole(7), fixed.Number{Abs: api.Nat{7}}) || !fixed.Whole(0).Zero() {
		t.Error("Whole:", fixed.Whole(7))
	}
}
