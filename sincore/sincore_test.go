package sincore_test

import (
	"math"
	"reflect"
	"slices"
	"testing"

	"ulp/api"
	"ulp/dyad"
	"ulp/ival"
	"ulp/probe"
	"ulp/sincore"
)

const (
	all  = uint64(math.MaxUint64)
	most = 1 << 14 // the farthest below 0 of a top of which a sine must be told
)

var (
	wrongBits = []int{api.MinBits - 1, 1, 0, -1, -64, math.MinInt, api.MaxCore + 1, api.MaxWork, math.MaxInt}
	someBits  = []int{api.MinBits, 9, 24, 53, 64, 100, 128, 160, 333}
	zeros     = []api.Dyad{{}, {Neg: true}, {Abs: api.Nat{}}, {Abs: api.Nat{0, 0}}, {Neg: true, Abs: api.Nat{0}, Exp: -api.MaxExp}, {Exp: api.MaxExp}}
	ones      = []api.Dyad{of(1, 0), {Abs: api.Nat{1, 0, 0}}, of(4, -2), {Abs: api.Nat{0, 1}, Exp: -64}, {Abs: probe.Power2(api.MaxExp), Exp: -api.MaxExp}}
)

// amounts are above 0, at most 1, and not far: edges, powers of 2 with what lies beside them, forms that are not the one form, and some without a pattern.
func amounts() []api.Dyad {
	list := []api.Dyad{
		of(1, 0), of(3, -2), of(12, -4), {Abs: api.Nat{0, 1, 0}, Exp: -66}, of(1, -1), of(25, -5), of(1, -1074), of(3, -1074), of(1, -most), sum(of(1, -most), of(1, -api.MaxExp)), sum(of(1, 1-most), less(of(1, -api.MaxExp))),
		sum(of(1, 0), less(of(1, -api.MaxExp))), sum(of(1, 0), less(of(1, -60))), sum(of(1, 0), less(of(1, -1000))), sum(of(1, -1), of(1, -api.MaxExp)), sum(of(1, -700), of(1, -3000)),
		{Abs: append(probe.Filled(9, 0), all, 0), Exp: -700}, {Abs: probe.Filled(3, all), Exp: -192}, {Abs: probe.Filled(500, all), Exp: -32700}, {Abs: probe.Filled(512, all), Exp: -api.MaxExp},
	}
	for n := 1; n < 400; n += 13 {
		list = append(list, of(1, -n), of(3, -n-2), sum(of(1, -n), of(1, -n-60)), sum(of(1, -n), less(of(1, -n-60))), sum(of(1, -n), of(1, -n-500)))
	}
	s := probe.Source(1)
	for range 60 {
		n := 1 + s.Below(5)
		list = append(list, api.Dyad{Abs: append(s.Natural(n), 1|s.Word()), Exp: -64*(n+1) - s.Below(3)*s.Below(60)})
	}
	for range 60 {
		d, _ := dyad.From(math.Float64bits(math.Abs(s.Float(-1 - s.Below(2)*s.Below(1022)))))
		list = append(list, d)
	}
	return list
}

// bothSigns are the numbers, and less each of them.
func bothSigns(list []api.Dyad) []api.Dyad {
	for _, d := range slices.Clone(list) {
		list = append(list, less(d))
	}
	return list
}

// 13.1
func TestSinCos(t *testing.T) {
	for i, d := range bothSigns(amounts()) {
		for j := range 2 {
			check(t, d, someBits[(i+4*j)%len(someBits)])
		}
	}
}

// 13.1
func TestManyBits(t *testing.T) {
	list := bothSigns([]api.Dyad{of(1, 0), of(1, -most), of(0x123456789abcdef, -57), of(0x123456789abcdef, -70), of(1, -1000), sum(of(1, 0), less(of(1, -api.MaxExp)))})
	for _, d := range list {
		for _, p := range []int{1000, api.MaxBits, api.MaxCore - 1, api.MaxCore} {
			check(t, d, p)
		}
	}
}

// 13.1: all bits that are few.
func TestAllBits(t *testing.T) {
	for p := api.MinBits; p <= 300; p++ {
		check(t, of(uint64(2*p+1), -10), p)
		check(t, sum(of(1, 0), less(of(1, -p))), p)
		check(t, less(of(uint64(p), -p-9)), p)
		check(t, of(1, -p/2), p)
	}
}

// 13.1: the sine of 0 is told as from 0 to 0, in whatever form 0 is; the cosine has 1 in it.
func TestZero(t *testing.T) {
	for _, zero := range zeros {
		for _, p := range []int{api.MinBits, 64, api.MaxCore} {
			if v, why := sincore.Sin(zero, p); why != api.OK || !reflect.DeepEqual(v, api.Ival{}) {
				t.Errorf("Sin of 0 at %d bits = %s, error %d", p, showIval(v), why)
			}
			if v, why := sincore.Cos(zero, p); why != api.OK || !isForm(v) || !ival.Narrow(v, p) || !ival.Has(v, of(1, 0)) {
				t.Errorf("Cos of 0 at %d bits = %s, error %d", p, showIval(v), why)
			}
			if v, w, why := sincore.Both(api.Ival{Lo: zero, Hi: zero}, p); why != api.OK || !reflect.DeepEqual(v, api.Ival{}) || !ival.Narrow(w, p) || !ival.Has(w, of(1, 0)) {
				t.Errorf("Both of 0 at %d bits = %s, %s, error %d", p, showIval(v), showIval(w), why)
			}
		}
	}
}

// 13.1: 1 and -1 in all their forms.
func TestOne(t *testing.T) {
	for _, one := range bothSigns(ones) {
		for _, p := range []int{api.MinBits, 64, api.MaxCore} {
			check(t, one, p)
		}
	}
}

// refused: Sin and Cos answer that error, and nothing else.
func refused(t *testing.T, d api.Dyad, p int, want api.Errno) {
	t.Helper()
	for _, call := range []func(api.Dyad, int) (api.Ival, api.Errno){sincore.Sin, sincore.Cos} {
		if v, why := call(d, p); why != want || !reflect.DeepEqual(v, api.Ival{}) {
			t.Errorf("%d words, exponent %d, less %v, at %d bits: error %d, want %d", len(d.Abs), d.Exp, d.Neg, p, why, want)
		}
	}
}

// beyond are above 1.
func beyond() []api.Dyad {
	return []api.Dyad{
		sum(of(1, 0), of(1, -api.MaxExp)), sum(of(1, 0), of(1, -60)), of(3, -1), of(2, 0), of(10, 0), of(1, most), of(1, api.MaxExp), of(2, api.MaxExp), {Abs: probe.Filled(api.MaxLimbs, all)}, {Abs: probe.Filled(api.MaxLimbs, all), Exp: -api.MaxExp}, {Abs: probe.Filled(api.MaxLimbs, all), Exp: api.MaxExp}, {Abs: append(probe.Filled(513, all), 0, 0), Exp: -api.MaxExp},
	}
}

// 13.1
func TestBeyondOne(t *testing.T) {
	for _, d := range bothSigns(beyond()) {
		for _, p := range []int{api.MinBits, 64, api.MaxCore} {
			refused(t, d, p, api.ErrWhole)
		}
	}
}

// 13.1: what is wrong by its bits or by itself is refused for that first.
func TestWrong(t *testing.T) {
	for _, p := range wrongBits {
		for _, d := range bothSigns(slices.Concat(zeros, beyond(), []api.Dyad{of(1, 0), of(3, -2), of(1, -20000), of(1, -api.MaxExp)})) {
			refused(t, d, p, api.ErrRange)
		}
	}
	for _, d := range bothSigns(probe.WrongNumbers()) {
		for _, p := range append([]int{api.MinBits, 64, api.MaxCore}, wrongBits...) {
			refused(t, d, p, api.ErrRange)
		}
	}
}

// far are amounts whose tops are just below -2^14, and as far as they may be.
func far() []api.Dyad {
	return []api.Dyad{of(1, -most-1), sum(of(1, -most), less(of(1, -api.MaxExp))), of(1, -api.MaxExp), of(3, -api.MaxExp), of(3, -20000), of(1, -32700), of(2, -api.MaxExp), {Abs: probe.Filled(200, all), Exp: -api.MaxExp}}
}

// 13.1
func TestFar(t *testing.T) {
	for _, d := range bothSigns(far()) {
		for _, p := range []int{api.MinBits, 64, api.MaxCore} {
			rightOrMany(t, d, p)
		}
	}
}

// 13.1, 13.2: whatever is handed in, there is an answer: an error alone, or intervals that are right, in their one form.
func TestAnything(t *testing.T) {
	list := slices.Concat(probe.Numbers(), probe.GreatNumbers(), probe.WrongNumbers(), far(), amounts()[:20])
	sound := func(v api.Ival, why api.Errno) bool {
		return why == api.OK && isForm(v) || why != api.OK && reflect.DeepEqual(v, api.Ival{})
	}
	for i, d := range list {
		for _, p := range append([]int{api.MinBits, 70}, wrongBits...) {
			for j := range 5 {
				v := api.Ival{Lo: d, Hi: list[(i+j*j*j)%len(list)]}
				if sines, cosines, why := sincore.Both(v, p); !sound(sines, why) || !sound(cosines, why) {
					t.Errorf("Both from %d words, exponent %d, at %d bits: error %d", len(d.Abs), d.Exp, p, why)
				}
			}
			sine, why := sincore.Sin(d, p)
			cosine, whyToo := sincore.Cos(d, p)
			if !sound(sine, why) || !sound(cosine, whyToo) {
				t.Errorf("%d words, exponent %d, at %d bits: errors %d, %d", len(d.Abs), d.Exp, p, why, whyToo)
			}
		}
	}
}

// 13.3
func TestNewMemory(t *testing.T) {
	list := bothSigns([]api.Dyad{{}, of(1, 0), of(12, -4), {Abs: api.Nat{0, 6, 0}, Exp: -70}, {Abs: probe.Filled(20, all), Exp: -1280}, of(1, -5000), {Abs: append(api.Nat{1}, probe.Filled(20, 0)...), Exp: -5000}, {Abs: probe.Filled(60, all), Exp: -9000}})
	for _, d := range list {
		for _, p := range []int{api.MinBits, 64, 500} {
			was := slices.Clone(d.Abs)
			d.Abs = slices.Grow(slices.Clone(d.Abs), 4)
			var answers []api.Nat
			for _, v := range []api.Ival{{Lo: d, Hi: d}, {Lo: of(3, -2), Hi: of(3, -2)}, {Lo: less(of(1, 0)), Hi: d}, {Lo: d, Hi: of(1, 0)}} {
				sine, _ := sincore.Sin(v.Lo, p)
				cosine, _ := sincore.Cos(v.Hi, p)
				sines, cosines, _ := sincore.Both(v, p)
				for _, w := range []api.Ival{sine, cosine, sines, cosines} {
					answers = append(answers, w.Lo.Abs, w.Hi.Abs)
				}
			}
			if !probe.Apart(answers, d.Abs) {
				t.Errorf("answers of %s share memory", show(d))
			}
			if !slices.Equal(d.Abs, was) {
				t.Errorf("%v became %v", was, d.Abs)
			}
		}
	}
}

// The chapter's examples.
func TestExamples(t *testing.T) {
	if v, why := sincore.Sin(api.Dyad{}, 64); why != api.OK || !reflect.DeepEqual(v, api.Ival{}) {
		t.Errorf("Sin(0, 64) = %v, error %d", v, why)
	}
	if v, why := sincore.Cos(api.Dyad{}, 64); why != api.OK || !ival.Has(v, dyad.Int(1)) {
		t.Errorf("Cos(0, 64) = %v, error %d", v, why)
	}
	known, _ := dyad.From(math.Float64bits(0.8414709848))
	if v, why := sincore.Sin(dyad.Int(1), 8); why != api.OK || !ival.Narrow(v, 8) || !ival.Meets(v, api.Ival{Lo: known, Hi: sum(known, of(1, -33))}) {
		t.Errorf("Sin(1, 8) = %s, error %d", showIval(v), why)
	}
	refused(t, dyad.Int(2), 64, api.ErrWhole)
	_, v, why := sincore.Both(api.Ival{Lo: dyad.Int(-1), Hi: dyad.Int(1)}, 64)
	if order, _ := dyad.Cmp(v.Hi, dyad.Int(1)); why != api.OK || order < 0 || !nearTo(v.Hi, fresh(300).SetInt64(1), 64) {
		t.Errorf("Both of [-1, 1]: the cosines are %s, error %d", showIval(v), why)
	}
}
