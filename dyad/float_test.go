package dyad_test

import (
	"math"
	"math/big"
	"testing"

	"ulp/api"
	"ulp/bits"
	"ulp/dyad"
	"ulp/probe"
)

const (
	minusZero = uint64(1) << 63
	leastNorm = uint64(0x0010000000000000)
)

// floatValue is a finite binary64, at the exponent of the least one.
func floatValue(x uint64) scaled {
	f := new(big.Float).SetPrec(2200).SetFloat64(math.Float64frombits(x))
	whole, _ := f.SetMantExp(f, 1074).Int(nil)
	return scaled{whole, -1074}
}

// P4.2, P4.8: there and back; only -0 comes back as 0.
func TestFromAndTo(t *testing.T) {
	for _, x := range probe.Floats() {
		d, why := dyad.From(x)
		expect(t, "From", d, why, floatValue(x))
		back, ok := dyad.To(d)
		if !ok || back != x && !(x == minusZero && back == 0) {
			t.Errorf("To of From(%x) = %x, %v", x, back, ok)
		}
	}
}

// P4.2
func TestFromNone(t *testing.T) {
	for _, x := range []uint64{0x7ff0000000000000, 0x7ff0000000000001, 0x7ff8000000000000, 0x7fffffffffffffff} {
		for _, y := range []uint64{x, x | minusZero} {
			if d, why := dyad.From(y); why != api.ErrWhole || d.Neg || d.Abs != nil || d.Exp != 0 {
				t.Errorf("From(%x) = %v, error %d, want ErrWhole", y, d, why)
			}
		}
	}
}

// P4.2: whatever its form, a number is told if a binary64 is it.
func TestToAnyForm(t *testing.T) {
	for _, x := range probe.Floats() {
		d, _ := dyad.From(x)
		for _, n := range []int{1, 11, 64, 70} {
			form := api.Dyad{Neg: d.Neg, Abs: valueWords(new(big.Int).Lsh(new(big.Int).Abs(valueOf(d).whole), uint(n))), Exp: d.Exp - n}
			form.Abs = append(form.Abs, 0)
			if back, ok := dyad.To(form); !ok || back != x && !(x == minusZero && back == 0) {
				t.Errorf("To%s = %x, %v, want %x", show([]api.Dyad{form}), back, ok, x)
			}
		}
	}
	for _, d := range []api.Dyad{{}, {Neg: true}, {Neg: true, Abs: api.Nat{0, 0}, Exp: -9}, {Exp: api.MaxExp}} {
		if x, ok := dyad.To(d); x != 0 || !ok {
			t.Errorf("To of 0 = %x, %v", x, ok)
		}
	}
}

func valueWords(n *big.Int) api.Nat {
	var list api.Nat
	for n.Sign() > 0 {
		list = append(list, n.Uint64())
		n = new(big.Int).Rsh(n, 64)
	}
	return list
}

// P4.2: what no binary64 is: too many bits, too small, too great, not right.
func TestToNone(t *testing.T) {
	list := append(probe.WrongNumbers(), []api.Dyad{
		{Abs: api.Nat{1}, Exp: -1075},
		{Abs: api.Nat{3}, Exp: -1075},
		{Abs: api.Nat{1<<53 + 1}},
		{Abs: api.Nat{1<<54 - 1}, Exp: 900},
		{Abs: api.Nat{1<<53 - 1}, Exp: -1075},
		{Abs: api.Nat{1<<53 - 1}, Exp: 972},
		{Abs: api.Nat{1}, Exp: 1024},
		{Abs: api.Nat{0, 1}, Exp: 960},
		{Abs: api.Nat{1, 1}},
		{Abs: api.Nat{1}, Exp: api.MaxExp},
		{Abs: api.Nat{2}, Exp: api.MaxExp},
		{Abs: api.Nat{1}, Exp: -api.MaxExp},
		{Abs: probe.Filled(api.MaxLimbs, all), Exp: -api.MaxExp},
	}...)
	for _, d := range list {
		for _, neg := range []bool{false, true} {
			d.Neg = neg
			if x, ok := dyad.To(d); x != 0 || ok {
				t.Errorf("To%s = %x, %v", show([]api.Dyad{d}), x, ok)
			}
		}
	}
	for exp, want := range map[int]uint64{-1074: 1, -1023: 1 << 51, -1022: leastNorm, 1023: 0x7fe0000000000000} {
		if x, ok := dyad.To(api.Dyad{Abs: api.Nat{1}, Exp: exp}); x != want || !ok {
			t.Errorf("To(2^%d) = %x, %v", exp, x, ok)
		}
	}
}

// P4.8: numbers stand as bits.Less has them.
func TestOrderOfFloats(t *testing.T) {
	list := probe.Floats()
	for i := 0; i < len(list); i += 3 {
		for j := 0; j < len(list); j += 7 {
			x, y := list[i], list[j]
			a, _ := dyad.From(x)
			b, _ := dyad.From(y)
			n, why := dyad.Cmp(a, b)
			if why != api.OK || (n < 0) != bits.Less(x, y) || (n > 0) != bits.Less(y, x) {
				t.Errorf("Cmp of %x and %x = %d, error %d", x, y, n, why)
			}
		}
	}
}
