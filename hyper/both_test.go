package hyper_test

import (
	"math"
	"reflect"
	"slices"
	"testing"

	"ulp/api"
	"ulp/dyad"
	"ulp/hyper"
	"ulp/ival"
	"ulp/probe"
)

const (
	all   = uint64(math.MaxUint64)
	least = -1 << 14 // the top of the nearest numbers to 0 that must be told
)

var zeros = []api.Dyad{{}, {Neg: true}, {Abs: api.Nat{}}, {Abs: api.Nat{0, 0}}, {Neg: true, Abs: api.Nat{0}, Exp: -api.MaxExp}, {Exp: api.MaxExp}, {Abs: probe.Filled(2*api.MaxLimbs, 0), Exp: 3}}

// either are the numbers, and less each of them.
func either(list []api.Dyad) []api.Dyad {
	for _, d := range slices.Clone(list) {
		list = append(list, less(d))
	}
	return list
}

// numbers are above 0 and within reach: edges, forms that are not the one form, numbers of many bits, numbers near 0, and some without a pattern.
func numbers() []api.Dyad {
	most, little := dyad.Int(11000), of(1, -api.MaxExp)
	list := []api.Dyad{
		of(1, 0), of(3, 0), of(10, 0), of(3, -1), of(12, -4), {Abs: api.Nat{0, 1, 0}, Exp: -66}, of(709, 0), of(1, -1074), {Abs: probe.Power2(api.MaxExp), Exp: 11 - api.MaxExp}, {Abs: append(probe.Power2(2000), 0), Exp: -1990},
		most, sum(most, less(little)), sum(most, less(of(1, -50))), sum(of(1, 0), little), sum(of(1, 0), less(little)), {Abs: probe.Filled(200, all), Exp: 13 - 64*200}, {Abs: probe.Filled(3, all), Exp: -192}, {Abs: probe.Filled(490, all), Exp: -1000 - 64*490},
		of(1, least), of(3, least), sum(of(1, least), little), sum(of(1, least+1), less(little)), of(0x123456789, -5000), of(3, -12000), sum(of(1, -700), of(1, -3000)), {Abs: probe.Filled(500, all), Exp: -32700}, {Abs: append(probe.Filled(9, 0), all, 0), Exp: -700},
	}
	for n := -1900; n < 0; n += 171 {
		list = append(list, of(1, n), sum(of(1, n), of(1, n-60)), sum(of(1, n), less(of(1, n-500))), sum(of(1, n), of(1, -30000)))
	}
	for n := range 100 { // there the cosine is as near to 1 as bits are asked for
		list = append(list, of(1, -n), of(5, -n-3))
	}
	s := probe.Source(21)
	for range 60 {
		n := 1 + s.Below(5)
		list = append(list, api.Dyad{Abs: append(s.Natural(n), 1|s.Word()), Exp: s.Below(150) - 201 - 64*n})
	}
	return list
}

// P20.2
func TestBoth(t *testing.T) {
	for i, d := range either(numbers()) {
		for j := range 2 {
			checkBoth(t, d, few[(i+4*j)%len(few)])
		}
	}
}

// P20.2
func TestBothManyBits(t *testing.T) {
	for _, d := range either([]api.Dyad{of(1, 0), of(3, -1), of(1, -900), of(1, -1030), of(1, -2080), of(1, least), of(11000, 0), sum(of(11000, 0), less(of(1, -api.MaxExp))), sum(of(1, -26), of(1, -3000))}) {
		for _, p := range []int{1000, api.MaxBits - 1, api.MaxBits} {
			checkBoth(t, d, p)
		}
	}
}

// P20.2: 0 in all its forms.
func TestBothOfZero(t *testing.T) {
	for _, zero := range zeros {
		for _, p := range []int{api.MinBits, 64, api.MaxBits} {
			sine, cosine, why := hyper.Both(zero, p)
			if why != api.OK || !reflect.DeepEqual(sine, api.Ival{}) || !isForm(cosine) || !narrow(cosine, p) || !ival.Has(cosine, of(1, 0)) {
				t.Errorf("Both(0, %d) = %s, %s, error %d", p, showIval(sine), showIval(cosine), why)
			}
		}
	}
}

// tooGreat are not within reach; tooNear have tops below -2^14.
func tooGreat() []api.Dyad {
	return []api.Dyad{sum(of(11000, 0), of(1, -api.MaxExp)), sum(of(11000, 0), of(1, -40)), of(11001, 0), {Abs: probe.Power2(14)}, {Abs: probe.Power2(2024), Exp: -2010}, of(1, 1024), of(3, 2000), of(1, api.MaxExp), of(2, api.MaxExp), {Abs: api.Nat{0, 4, 0}, Exp: api.MaxExp}, {Abs: probe.Filled(api.MaxLimbs, all)}, {Abs: probe.Filled(api.MaxLimbs, all), Exp: -api.MaxExp}, {Abs: probe.Filled(513, all), Exp: -api.MaxExp}}
}

func tooNear() []api.Dyad {
	return []api.Dyad{of(1, least-1), sum(of(1, least), less(of(1, -api.MaxExp))), of(1, -20000), of(1, -api.MaxExp), of(2, -api.MaxExp), of(3, -api.MaxExp), {Abs: probe.Filled(200, all), Exp: -api.MaxExp}}
}

// P20.2
func TestBothMany(t *testing.T) {
	for _, d := range either(tooGreat()) {
		for _, p := range []int{api.MinBits, 64, api.MaxBits} {
			refusedBoth(t, d, p, api.ErrMany)
		}
	}
}

// P20.2: numbers that are that near 0 are told rightly, or refused.
func TestBothNear(t *testing.T) {
	for _, d := range either(tooNear()) {
		for _, p := range []int{api.MinBits, 64, api.MaxBits} {
			sine, cosine, why := hyper.Both(d, p)
			many := why == api.ErrMany && reflect.DeepEqual(sine, api.Ival{}) && reflect.DeepEqual(cosine, api.Ival{})
			if !many && (why != api.OK || !rightBoth(sine, cosine, d, p)) {
				t.Errorf("Both(%s, %d) = %s, %s, error %d", show(d), p, showIval(sine), showIval(cosine), why)
			}
		}
	}
}

// P20.2: what is wrong by its bits or by itself is refused for that first.
func TestBothWrong(t *testing.T) {
	for _, p := range wrongBits {
		for _, d := range either(slices.Concat(zeros, tooGreat(), tooNear(), []api.Dyad{of(1, 0), of(3, -2)})) {
			refusedBoth(t, d, p, api.ErrRange)
		}
	}
	for _, d := range either(probe.WrongNumbers()) {
		for _, p := range append([]int{api.MinBits, 64, api.MaxBits}, wrongBits...) {
			refusedBoth(t, d, p, api.ErrRange)
		}
	}
}

// P20.2: whatever is handed in, there is an answer.
func TestBothOfAnything(t *testing.T) {
	sound := func(v api.Ival, why api.Errno, p int) bool {
		return why == api.OK && isForm(v) && narrow(v, p) || why != api.OK && reflect.DeepEqual(v, api.Ival{})
	}
	for _, d := range slices.Concat(probe.Numbers(), probe.GreatNumbers(), probe.WrongNumbers(), tooNear()) {
		for _, p := range append([]int{api.MinBits, 70}, wrongBits...) {
			if v, w, why := hyper.Both(d, p); !sound(v, why, p) || !sound(w, why, p) {
				t.Errorf("Both of %d words, exponent %d, to %d bits: error %d", len(d.Abs), d.Exp, p, why)
			}
		}
	}
}

// P20.3
func TestBothNewMemory(t *testing.T) {
	for _, d := range either([]api.Dyad{{}, of(1, 0), of(3, 0), of(12, -3), {Abs: api.Nat{0, 6, 0}, Exp: -65}, {Abs: probe.Filled(20, all), Exp: -1270}, of(1, -26), of(3, -3000), of(1, least), of(11000, 0), {Abs: probe.Filled(60, all), Exp: -9000}}) {
		for _, p := range []int{api.MinBits, 64, 500} {
			was := slices.Clone(d.Abs)
			d.Abs = slices.Grow(slices.Clone(d.Abs), 4)
			var answers []api.Nat
			for range 2 {
				sine, cosine, _ := hyper.Both(d, p)
				answers = append(answers, sine.Lo.Abs, sine.Hi.Abs, cosine.Lo.Abs, cosine.Hi.Abs)
			}
			if !probe.Apart(answers, d.Abs) {
				t.Errorf("answers of Both(%s, %d) share memory", show(d), p)
			}
			if !slices.Equal(d.Abs, was) {
				t.Errorf("%v became %v", was, d.Abs)
			}
		}
	}
}
