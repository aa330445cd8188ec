package trigpi_test

import (
	"math"
	"reflect"
	"slices"
	"testing"

	"ulp/api"
	"ulp/ival"
	"ulp/probe"
	"ulp/reduce"
	"ulp/trigpi"
)

const (
	all   = uint64(math.MaxUint64)
	least = -1 << 14 // the top of the nearest angles to a right angle that must be told
)

var zeros = []api.Dyad{{}, {Neg: true}, {Abs: api.Nat{}}, {Abs: api.Nat{0, 0}}, {Neg: true, Abs: api.Nat{0}, Exp: -api.MaxExp}, {Exp: api.MaxExp}, {Abs: probe.Filled(2*api.MaxLimbs, 0), Exp: 3}}

// either are the numbers, and less each of them.
func either(list []api.Dyad) []api.Dyad {
	for _, d := range slices.Clone(list) {
		list = append(list, less(d))
	}
	return list
}

// beside are a number, and what lies so little below and above it.
func beside(d, little api.Dyad) []api.Dyad {
	return []api.Dyad{d, sum(d, less(little)), sum(d, little)}
}

// halfTurns are above 0: edges, eighths of a turn with what lies beside them, forms that are not the one form, great numbers, numbers of many bits, and some without a pattern.
func halfTurns() []api.Dyad {
	list := []api.Dyad{
		of(12, -4), {Abs: api.Nat{0, 1, 0}, Exp: -66}, of(1, -1074), of(1, 1023), of(1, 1024), of(1, api.MaxExp), of(3, 20000), {Abs: probe.Filled(16, all)}, {Abs: append(probe.Power2(2000), 0), Exp: -1000}, {Abs: probe.Filled(16, all), Exp: -3},
		{Abs: probe.Filled(api.MaxLimbs, all)}, {Abs: probe.Filled(api.MaxLimbs, all), Exp: 64 + least}, {Abs: probe.Filled(api.MaxLimbs, all), Exp: api.MaxExp}, {Abs: probe.Filled(api.MaxLimbs, all), Exp: -1}, {Abs: probe.Filled(api.MaxLimbs, all), Exp: -2},
		of(1, least), of(3, least), sum(of(1, least), of(1, -api.MaxExp)), sum(of(1, least+1), less(of(1, -api.MaxExp))), of(0x123456789, -5000), of(3, -12000), sum(of(1, -700), of(1, -3000)), {Abs: probe.Filled(500, all), Exp: -32700}, {Abs: append(probe.Filled(9, 0), all, 0), Exp: -700},
	}
	for n := uint64(1); n <= 17; n++ {
		for _, little := range []int{-30, -1000, least} {
			list = append(list, beside(of(n, -2), of(1, little))...)
		}
	}
	for n := 10; n < 900; n += 171 {
		list = append(list, beside(of(1, n), of(1, -2))...)
		list = append(list, beside(sum(of(1, n), of(1, -1)), of(1, -60))...)
	}
	s := probe.Source(19)
	for range 60 {
		n := 1 + s.Below(5)
		list = append(list, api.Dyad{Abs: append(s.Natural(n), 1|s.Word()), Exp: s.Below(200) - 140 - 64*n})
	}
	return list
}

// P18.2
func TestBoth(t *testing.T) {
	for i, d := range either(halfTurns()) {
		checkBoth(t, d, few[i%len(few)])
	}
}

// P18.2
func TestBothManyBits(t *testing.T) {
	for _, d := range either([]api.Dyad{of(1, -2), of(1, -1), of(1, 0), of(1, -3), sum(of(1, -2), of(1, -4000)), of(1, -900), of(1, least), sum(of(1, 0), of(1, least)), {Abs: probe.Filled(api.MaxLimbs, all), Exp: -2}}) {
		for _, p := range []int{1000, api.MaxBits - 1, api.MaxBits} {
			checkBoth(t, d, p)
		}
	}
}

// P18.2: 0 in all its forms.
func TestBothOfZero(t *testing.T) {
	for _, zero := range zeros {
		for _, p := range []int{api.MinBits, 64, api.MaxBits} {
			sine, cosine, why := trigpi.Both(zero, p)
			if why != api.OK || !reflect.DeepEqual(sine, api.Ival{}) || !isForm(cosine) || !narrow(cosine, p) || !ival.Has(cosine, of(1, 0)) {
				t.Errorf("Both(0, %d) = %s, %s, error %d", p, showIval(sine), showIval(cosine), why)
			}
		}
	}
}

// P18.2: what Turns leaves has a top below -2^14: it is told rightly, or refused.
func TestBothNear(t *testing.T) {
	nearest := []api.Dyad{of(1, least-1), sum(of(1, least), less(of(1, -api.MaxExp))), of(1, -20000), of(1, -api.MaxExp), of(2, -api.MaxExp), of(3, -api.MaxExp), {Abs: probe.Filled(200, all), Exp: -api.MaxExp}}
	list := []api.Dyad{{Abs: probe.Filled(api.MaxLimbs, all), Exp: -api.MaxExp}}
	for _, little := range nearest {
		for n := range uint64(5) {
			list = append(list, sum(of(n, -1), little), sum(of(n, -1), less(little)))
		}
	}
	for _, d := range either(list) {
		for _, p := range []int{api.MinBits, 64, api.MaxBits} {
			sine, cosine, why := trigpi.Both(d, p)
			many := why == api.ErrMany && reflect.DeepEqual(sine, api.Ival{}) && reflect.DeepEqual(cosine, api.Ival{})
			if !many && (why != api.OK || !rightBoth(sine, cosine, d, p)) {
				t.Errorf("Both(%s, %d) = %s, %s, error %d", show(d), p, showIval(sine), showIval(cosine), why)
			}
		}
	}
}

// P18.2: Turns' errors: of what is not right, and of what has no room in its one form.
func TestBothRefused(t *testing.T) {
	wrong, noRoom := either(probe.WrongNumbers()), either([]api.Dyad{of(2, api.MaxExp), {Abs: api.Nat{0, 4, 0}, Exp: api.MaxExp}, {Abs: probe.Power2(64*api.MaxLimbs - 1), Exp: api.MaxExp}})
	for _, p := range []int{api.MinBits, 64, api.MaxBits} {
		for _, d := range wrong {
			refusedBoth(t, d, p, api.ErrRange)
		}
		for _, d := range noRoom {
			refusedBoth(t, d, p, api.ErrMany)
		}
	}
	for _, p := range wrongBits {
		for _, d := range slices.Concat(wrong, noRoom, zeros, []api.Dyad{of(1, 0), of(1, -2), of(1, -api.MaxExp)}) {
			refusedBoth(t, d, p, api.ErrRange)
		}
	}
}

// P18.2: whatever is handed in, there is an answer; Turns' error, if it has one.
func TestBothOfAnything(t *testing.T) {
	sound := func(v api.Ival, why api.Errno, p int) bool {
		return why == api.OK && isForm(v) && narrow(v, p) || why != api.OK && reflect.DeepEqual(v, api.Ival{})
	}
	for _, d := range slices.Concat(probe.Numbers(), probe.GreatNumbers(), probe.WrongNumbers()) {
		for _, p := range append([]int{api.MinBits, 70}, wrongBits...) {
			v, w, why := trigpi.Both(d, p)
			if !sound(v, why, p) || !sound(w, why, p) {
				t.Errorf("Both of %d words, exponent %d, to %d bits: error %d", len(d.Abs), d.Exp, p, why)
			}
			if _, _, want := reduce.Turns(d); p == 70 && want != api.OK && why != want {
				t.Errorf("Both of %d words, exponent %d: error %d, want %d", len(d.Abs), d.Exp, why, want)
			}
		}
	}
}

// P18.3
func TestBothNewMemory(t *testing.T) {
	for _, d := range either([]api.Dyad{{}, of(1, -2), of(1, -1), of(3, -2), of(1, 0), of(5, -3), of(12, -3), {Abs: api.Nat{0, 6, 0}, Exp: -65}, {Abs: probe.Filled(20, all), Exp: -1270}, of(3, -3000), of(1, least), {Abs: probe.Filled(60, all), Exp: -9000}}) {
		for _, p := range []int{api.MinBits, 64, 500} {
			was := slices.Clone(d.Abs)
			d.Abs = slices.Grow(slices.Clone(d.Abs), 4)
			var answers []api.Nat
			for range 2 {
				sine, cosine, _ := trigpi.Both(d, p)
				answers = append(answers, sine.Lo.Abs, sine.Hi.Abs, cosine.Lo.Abs, cosine.Hi.Abs)
			}
			if !probe.Apart(answers, d.Abs) {
				t.Errorf("answers of Both(%s, %d) share memory", show(d), p)
			}
			if !slices.Equal(d.Abs, was) {
				t.Errorf("%v became %v", was, d.Abs)
			}
		}
	}
}
