package logfam_test

import (
	"math"
	"reflect"
	"slices"
	"testing"

	"ulp/api"
	"ulp/dyad"
	"ulp/ival"
	"ulp/logfam"
	"ulp/probe"
)

const (
	all      = uint64(math.MaxUint64)
	mostBits = api.MaxCore - 128 // of To
)

var (
	bases      = []int{0, 2, 10}
	wrongBases = []int{-1, 1, 3, 4, 5, 8, 9, 11, 12, 16, -2, -10, 256, 258, 266, math.MinInt, math.MaxInt}
	zeros      = []api.Dyad{{}, {Neg: true}, {Abs: api.Nat{}}, {Abs: api.Nat{0, 0}}, {Neg: true, Abs: api.Nat{0}, Exp: -api.MaxExp}, {Exp: api.MaxExp}}
)

// positive are dyadic numbers: edges, numbers of many bits, near 1, at the bounds of what is not far, forms that are not the one form, and some without a pattern.
func positive() []api.Dyad {
	unit := of(1, 0)
	list := []api.Dyad{
		unit, of(2, 0), of(10, 0), of(5, 0), of(3, -1), of(3, -2), of(12, -3), {Abs: api.Nat{0, 2, 0}, Exp: -64}, of(1, 1<<14), of(1, -1<<14), sum(of(1, -1<<14), of(1, -api.MaxExp)), sum(of(1, 1+1<<14), less(of(1, -1<<14))),
		{Abs: probe.Filled(256, all), Exp: 0}, {Abs: probe.Filled(700, all), Exp: -32000}, of(1, 1023), of(1, -1074), of(0x1fffffffffffff, 971), sum(of(1, 1), of(1, -api.MaxExp)), sum(of(3, -2), less(of(1, -api.MaxExp))),
		sum(unit, of(1, -1<<14)), sum(unit, less(of(1, -1<<14))), sum(unit, of(1, -900)), sum(unit, less(of(1, -900))), sum(unit, of(3, -60)), sum(unit, less(of(3, -60))), {Abs: probe.Filled(3, all), Exp: -192},
	}
	s := probe.Source(1)
	for range 40 {
		n := 1 + s.Below(5)
		list = append(list, api.Dyad{Abs: append(s.Natural(n), 1|s.Word()), Exp: s.Below(200) - 100 - 64*n})
	}
	return list
}

// P16.2
func TestTo(t *testing.T) {
	for _, base := range bases {
		for i, d := range positive() {
			for j := range 2 {
				checkTo(t, base, d, few[(i+4*j)%len(few)])
			}
		}
	}
}

// P16.2
func TestToManyBits(t *testing.T) {
	for _, base := range bases {
		for _, d := range []api.Dyad{of(2, 0), of(10, 0), of(1, 1<<14), of(0x123456789abcdef, -56), sum(of(1, 0), of(1, -1000)), sum(of(1, 0), less(of(1, -1<<14))), of(3, -2)} {
			for _, p := range []int{api.MaxBits, api.MaxBits + 1, mostBits - 1, mostBits} {
				checkTo(t, base, d, p)
			}
		}
	}
}

// P16.2: 1 in all its forms.
func TestToOfOne(t *testing.T) {
	for _, base := range bases {
		for _, p := range []int{api.MinBits, 64, mostBits} {
			for _, unit := range []api.Dyad{of(1, 0), {Abs: api.Nat{1, 0, 0}}, of(4, -2), {Abs: api.Nat{0, 1}, Exp: -64}, {Abs: probe.Power2(api.MaxExp), Exp: -api.MaxExp}} {
				if v, why := logfam.To(base, unit, p); why != api.OK || !reflect.DeepEqual(v, api.Ival{}) {
					t.Errorf("To(%d, 1, %d) = %s, error %d", base, p, showIval(v), why)
				}
			}
		}
	}
}

// P16.2: 0 in all its forms, and what is below; bits that are wrong are refused first.
func TestToOutside(t *testing.T) {
	for _, base := range bases {
		list := slices.Clone(zeros)
		for _, d := range slices.Concat(positive(), far()) {
			list = append(list, less(d))
		}
		for _, d := range list {
			for _, p := range []int{api.MinBits, 64, mostBits} {
				refusedTo(t, base, d, p, api.ErrWhole)
			}
			for _, p := range append([]int{mostBits + 1}, wrongBits...) {
				refusedTo(t, base, d, p, api.ErrRange)
			}
		}
	}
}

// P16.2: bases that are none, bits just beyond those that may be asked for, numbers that are not right.
func TestToWrong(t *testing.T) {
	good := []api.Dyad{{}, of(1, 0), less(of(1, 0)), of(3, 0), of(1, -20000), of(1, api.MaxExp)}
	for _, base := range wrongBases {
		for _, d := range slices.Concat(good, probe.WrongNumbers()) {
			for _, p := range append([]int{api.MinBits, 64, mostBits}, wrongBits...) {
				refusedTo(t, base, d, p, api.ErrRange)
			}
		}
	}
	for _, base := range bases {
		for _, p := range append([]int{mostBits + 1, api.MaxCore, api.MaxWork}, wrongBits...) {
			for _, d := range good {
				refusedTo(t, base, d, p, api.ErrRange)
			}
		}
		for _, d := range probe.WrongNumbers() {
			for _, p := range append([]int{api.MinBits, 64, mostBits}, wrongBits...) {
				refusedTo(t, base, d, p, api.ErrRange)
				refusedTo(t, base, less(d), p, api.ErrRange)
			}
		}
	}
}

// far are numbers whose tops are just beyond 2^14, and as far as they may be.
func far() []api.Dyad {
	return []api.Dyad{
		of(1, 1+1<<14), of(1, -1-1<<14), sum(of(1, -1<<14), less(of(1, -api.MaxExp))), of(1, api.MaxExp), of(1, -api.MaxExp), of(2, api.MaxExp), of(3, -api.MaxExp), of(1, -30000),
		{Abs: probe.Filled(api.MaxLimbs, all), Exp: api.MaxExp}, {Abs: probe.Filled(api.MaxLimbs, all)}, {Abs: probe.Filled(api.MaxLimbs, all), Exp: -api.MaxExp}, {Abs: probe.Power2(64*api.MaxLimbs - 1), Exp: api.MaxExp}, {Abs: append(probe.Filled(api.MaxLimbs, all), 0, 0), Exp: -7},
	}
}

// P16.2: numbers that are far, and numbers whose difference from 1 is: these may be refused, but if they are not, they are told rightly.
func TestToFar(t *testing.T) {
	list := far()
	for _, n := range []int{1 + 1<<14, 20000, 30000, 32700, api.MaxExp} {
		for _, x := range []api.Dyad{of(1, -n), less(of(1, -n)), sum(of(1, -n), of(1, -api.MaxExp))} {
			list = append(list, sum(of(1, 0), x))
		}
	}
	for _, base := range bases {
		for _, p := range []int{api.MinBits, 64, mostBits} {
			for _, d := range list {
				v, why := logfam.To(base, d, p)
				refused := why == api.ErrMany && reflect.DeepEqual(v, api.Ival{})
				if !refused && (why != api.OK || !right(v, base, d, p)) {
					t.Errorf("To(%d, %s, %d): error %d", base, show(d), p, why)
				}
			}
		}
	}
}

// P16.2: whatever is handed in, there is an answer.
func TestToOfAnything(t *testing.T) {
	list := slices.Concat(probe.Numbers(), probe.GreatNumbers(), probe.WrongNumbers())
	for base := -3; base < 13; base++ {
		for _, d := range list {
			for _, p := range append([]int{api.MinBits, 70}, wrongBits...) {
				v, why := logfam.To(base, d, p)
				if why == api.OK && !(isForm(v) && narrow(v, p)) || why != api.OK && !reflect.DeepEqual(v, api.Ival{}) {
					t.Errorf("To(%d, %d words, exponent %d, %d): error %d", base, len(d.Abs), d.Exp, p, why)
				}
			}
		}
	}
}

// P16.4
func TestToNewMemory(t *testing.T) {
	for _, base := range bases {
		for _, d := range []api.Dyad{of(1, 0), of(2, 0), of(12, -3), {Abs: api.Nat{0, 6, 0}, Exp: -65}, {Abs: probe.Filled(20, all), Exp: -1280}, sum(of(1, 0), of(1, -5000)), of(1, -5000)} {
			for _, p := range []int{api.MinBits, 64, 500} {
				was := slices.Clone(d.Abs)
				d.Abs = slices.Grow(slices.Clone(d.Abs), 4)
				var answers []api.Nat
				for range 2 {
					v, _ := logfam.To(base, d, p)
					answers = append(answers, v.Lo.Abs, v.Hi.Abs)
				}
				if !probe.Apart(answers, d.Abs) {
					t.Errorf("answers of To(%d, %s, %d) share memory", base, show(d), p)
				}
				if !slices.Equal(d.Abs, was) {
					t.Errorf("%v became %v", was, d.Abs)
				}
			}
		}
	}
}

// P16.2: of a binary64 To and Enclose meet; the logarithm of a base's power is its exponent.
func TestToMeets(t *testing.T) {
	for _, k := range kinds[:3] {
		for i, x := range aboveZero() {
			p, q := few[i%len(few)], few[(i+2)%len(few)]
			v, why := logfam.To(k.base, number(x), p)
			if why != api.OK || !ival.Meets(v, enclosed(t, k.f, x, q)) {
				t.Errorf("base %d: the logarithms of %x to %d and to %d bits do not meet, error %d", k.base, x, p, q, why)
			}
		}
	}
	for n := -1 << 14; n <= 1<<14; n += 1 << 10 {
		if v, why := logfam.To(2, of(1, n), 80); why != api.OK || !ival.Has(v, dyad.Int(int64(n))) {
			t.Errorf("To(2, 2^%d, 80) = %s, error %d", n, showIval(v), why)
		}
	}
}
