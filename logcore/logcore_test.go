package logcore_test

import (
	"math"
	"math/big"
	"reflect"
	"slices"
	"testing"

	"ulp/api"
	"ulp/consts"
	"ulp/dyad"
	"ulp/ival"
	"ulp/logcore"
	"ulp/probe"
)

const all = uint64(math.MaxUint64)

var (
	wrongBits = []int{api.MinBits - 1, 1, 0, -1, -64, math.MinInt, api.MaxCore + 1, api.MaxWork, math.MaxInt}
	zeros     = []api.Dyad{{}, {Neg: true}, {Abs: api.Nat{}}, {Abs: api.Nat{0, 0}}, {Neg: true, Abs: api.Nat{0}, Exp: -api.MaxExp}, {Exp: api.MaxExp}}
)

// third is 1/3, cut to n bits behind the point; n is even.
func third(n int) api.Dyad {
	words := make(api.Nat, n/64+1)
	for i := 0; i < n; i += 2 {
		words[i/64] |= 1 << (i % 64)
	}
	return api.Dyad{Abs: words, Exp: -n}
}

// nearZero are numbers above -1 and below 1: the edges 1/3 and 1/2 with what lies beside them, those very near 0, and some without a pattern; of either sign.
func nearZero() []api.Dyad {
	list := []api.Dyad{
		of(1, -1), of(1, -2), of(3, -2), of(3, -3), third(64), third(400), sum(third(64), of(1, -64)), sum(third(400), of(1, -400)), third(api.MaxExp), sum(third(api.MaxExp), of(1, -api.MaxExp)),
		sum(of(1, -2), less(of(1, -90))), sum(of(1, -1), less(of(1, -90))), sum(of(1, -1), less(of(1, -api.MaxExp))), {Abs: probe.Filled(4, all), Exp: -256}, {Abs: api.Nat{0, 0, 5, 0}, Exp: -132},
		of(1, -1074), of(3, -1074), sum(of(1, -700), of(1, -3000)), of(1, -1<<14), sum(of(1, -1<<14), of(1, -api.MaxExp)), sum(of(1, 1-1<<14), less(of(1, -api.MaxExp))),
	}
	for n := 3; n < 200; n += 7 {
		list = append(list, of(1, -n), sum(of(1, -n), of(1, -n-60)), sum(of(1, -n), less(of(1, -n-60))))
	}
	s := probe.Source(3)
	for range 40 {
		n := 1 + s.Below(5)
		list = append(list, api.Dyad{Abs: append(s.Natural(n), s.Word()>>1), Exp: -64*(n+1) - s.Below(3)*s.Below(60)})
	}
	for _, d := range slices.Clone(list) {
		list = append(list, less(d))
	}
	return list
}

// aboveZero are numbers above 0 that are neither far nor 1: those beside 1, powers of 2 with what lies beside them, forms that are not the one form, and some without a pattern.
func aboveZero() []api.Dyad {
	list := []api.Dyad{
		of(10, 0), of(5, 0), of(3, -1), of(3, -2), of(12, -3), {Abs: api.Nat{0, 2, 0}, Exp: -64}, of(1, 1<<14), of(1, -1<<14), sum(of(1, -1<<14), of(1, -api.MaxExp)),
		sum(of(1, 1<<14), of(1, -1<<14)), sum(of(1, 1+1<<14), less(of(1, -1<<14))), {Abs: probe.Filled(256, all), Exp: 0}, {Abs: probe.Filled(700, all), Exp: -32000}, of(1, 1023), of(1, -1074), of(0x1fffffffffffff, 971),
		sum(of(1, 1), of(1, -api.MaxExp)), sum(of(1, 1), less(of(1, -api.MaxExp))), sum(of(1, -1), of(1, -api.MaxExp)), sum(of(3, -1), less(of(1, -api.MaxExp))), sum(of(3, -2), less(of(1, -api.MaxExp))), sum(of(3, -2), of(1, -200)),
	}
	for _, x := range nearZero() {
		list = append(list, sum(of(1, 0), x))
	}
	for n := -300; n < 300; n += 23 {
		list = append(list, of(1, n), of(3, n), sum(of(1, n), of(1, n-60)), sum(of(1, n), less(of(1, n-60))), sum(of(1, n), of(1, n-500)))
	}
	s := probe.Source(1)
	for range 60 {
		n := 1 + s.Below(5)
		list = append(list, api.Dyad{Abs: append(s.Natural(n), 1|s.Word()), Exp: s.Below(200) - 100 - 64*n})
	}
	for range 60 {
		d, _ := dyad.From(math.Float64bits(math.Abs(s.Float(s.Below(2046) - 1022))))
		list = append(list, d)
	}
	return list
}

// 11.1
func TestLog(t *testing.T) {
	few := []int{api.MinBits, 9, 24, 53, 64, 100, 128, 160, 333}
	for i, d := range aboveZero() {
		for j := range 3 {
			checkLog(t, d, few[(i+3*j)%len(few)])
		}
	}
}

// 11.1
func TestLog1p(t *testing.T) {
	few := []int{api.MinBits, 9, 24, 53, 64, 100, 128, 160, 333}
	list := append(nearZero(), of(1, 0), of(2, 0), of(1, 1<<14), of(3, 1000), sum(of(1, 0), of(1, -api.MaxExp)), of(0x1fffffffffffff, 971))
	for i, x := range list {
		for j := range 2 {
			checkLog1p(t, x, few[(i+4*j)%len(few)])
		}
	}
}

// 11.1
func TestManyBits(t *testing.T) {
	list := []api.Dyad{of(2, 0), of(10, 0), of(1, 1<<14), of(0x123456789abcdef, -56), of(0x123456789abcdef, -46), sum(of(1, 0), of(1, -1000)), sum(of(1, 0), less(of(1, -1<<14))), sum(of(3, -1), less(of(1, -9000))), of(3, -2)}
	for _, d := range list {
		for _, p := range []int{1000, api.MaxBits, api.MaxCore - 1, api.MaxCore} {
			checkLog(t, d, p)
			checkLog1p(t, sum(d, of(1, 0)), p)
		}
	}
	for _, p := range []int{1000, api.MaxCore} {
		checkLog1p(t, of(1, -1<<14), p)
		checkLog1p(t, less(of(5, -3000)), p)
	}
}

// 11.1: all bits that are few, where the logarithm's two parts take most from one another, and where all of it hangs on few bits.
func TestAllBits(t *testing.T) {
	for p := api.MinBits; p <= 300; p++ {
		checkLog(t, sum(of(3, -2), less(of(1, -p-2))), p)
		checkLog(t, sum(of(3, -1), of(uint64(p), -70)), p)
		checkLog(t, sum(of(1, 0), less(of(1, -p))), p)
		checkLog1p(t, of(uint64(2*p+1), -p), p)
	}
}

// 11.1: -1 and just above it. The nearer the number, the greater the logarithm's amount; x itself is not far.
func TestJustAboveMinusOne(t *testing.T) {
	for _, n := range []int{1, 2, 60, 64, 1074, 1 << 14, 1<<14 + 1, api.MaxExp - 1, api.MaxExp} {
		for _, p := range []int{api.MinBits, 64, 500} {
			checkLog1p(t, sum(of(1, -n), less(of(1, 0))), p)
		}
	}
}

// 11.1, 11.6: in all its forms.
func TestOne(t *testing.T) {
	for _, p := range []int{api.MinBits, 64, api.MaxCore} {
		for _, one := range []api.Dyad{of(1, 0), {Abs: api.Nat{1, 0, 0}}, of(4, -2), {Abs: api.Nat{0, 1}, Exp: -64}, {Abs: probe.Power2(api.MaxExp), Exp: -api.MaxExp}} {
			if v, why := logcore.Log(one, p); why != api.OK || !reflect.DeepEqual(v, api.Ival{}) {
				t.Errorf("Log of 1 at %d bits = %s, error %d", p, showIval(v), why)
			}
			if v, why := logcore.Over(api.Ival{Lo: one, Hi: one}, p); why != api.OK || !reflect.DeepEqual(v, api.Ival{}) {
				t.Errorf("Over of 1 at %d bits = %s, error %d", p, showIval(v), why)
			}
		}
		for _, zero := range zeros {
			if v, why := logcore.Log1p(zero, p); why != api.OK || !reflect.DeepEqual(v, api.Ival{}) {
				t.Errorf("Log1p of 0 at %d bits = %s, error %d", p, showIval(v), why)
			}
		}
	}
}

// far are numbers whose tops are just beyond 2^14, and as far as they may be.
func far() []api.Dyad {
	return []api.Dyad{
		of(1, 1+1<<14), of(1, -1-1<<14), sum(of(1, -1<<14), less(of(1, -api.MaxExp))), of(1, api.MaxExp), of(1, -api.MaxExp), of(2, api.MaxExp), of(3, -api.MaxExp), of(3, -20000), of(1, -30000),
		{Abs: probe.Filled(api.MaxLimbs, all), Exp: api.MaxExp}, {Abs: probe.Filled(api.MaxLimbs, all)}, {Abs: probe.Filled(api.MaxLimbs, all), Exp: -api.MaxExp}, {Abs: probe.Power2(64*api.MaxLimbs - 1), Exp: api.MaxExp}, {Abs: append(probe.Filled(api.MaxLimbs, all), 0, 0), Exp: -7},
	}
}

// 11.1: numbers that are far, and numbers that lie so near 1.
func TestFar(t *testing.T) {
	for _, p := range []int{api.MinBits, 64, api.MaxCore} {
		for _, d := range far() {
			v, why := logcore.Log(d, p)
			rightOrMany(t, v, why, d, p)
		}
		for _, n := range []int{1 + 1<<14, 20000, 30000, 32700, api.MaxExp} {
			for _, x := range []api.Dyad{of(1, -n), less(of(1, -n)), sum(of(1, -n), of(1, -api.MaxExp))} {
				near := sum(of(1, 0), x)
				v, why := logcore.Log(near, p)
				rightOrMany(t, v, why, near, p)
				v, why = logcore.Log1p(x, p)
				rightOrMany(t, v, why, near, p)
			}
		}
	}
}

// 11.1: where 1 + x has no room, by its bits and by its exponent; where it has just enough.
func TestNoRoom(t *testing.T) {
	without := []api.Dyad{
		{Abs: probe.Filled(api.MaxLimbs, all)}, {Abs: probe.Filled(api.MaxLimbs, all), Exp: 1}, {Abs: probe.Filled(api.MaxLimbs, all), Exp: -1}, {Abs: probe.Filled(api.MaxLimbs, all), Exp: api.MaxExp}, {Abs: probe.Filled(600, all), Exp: api.MaxExp}, {Abs: probe.Power2(64*api.MaxLimbs - 1), Exp: 1}, {Abs: append(probe.Filled(api.MaxLimbs, all), 0), Exp: 2},
	}
	for _, x := range without {
		for _, p := range []int{api.MinBits, 64, api.MaxCore} {
			if v, why := logcore.Log1p(x, p); why != api.ErrMany || !reflect.DeepEqual(v, api.Ival{}) {
				t.Errorf("Log1p of %d words, exponent %d: error %d, want ErrMany", len(x.Abs), x.Exp, why)
			}
		}
		refused(t, x, api.MinBits-1, api.ErrRange)
		if v, why := logcore.Log1p(less(x), 64); why != api.ErrWhole || !reflect.DeepEqual(v, api.Ival{}) {
			t.Errorf("Log1p of less %d words, exponent %d: error %d, want ErrWhole", len(x.Abs), x.Exp, why)
		}
	}
	for _, x := range []api.Dyad{of(1, api.MaxExp), {Abs: probe.Filled(500, all), Exp: api.MaxExp}, {Abs: append(probe.Filled(api.MaxLimbs-1, all), all>>1), Exp: -1}, {Abs: probe.Power2(64*api.MaxLimbs - 1)}} {
		v, why := logcore.Log1p(x, 64)
		rightOrMany(t, v, why, sum(x, of(1, 0)), 64)
	}
}

// refused: Log and Log1p answer that error, and nothing else.
func refused(t *testing.T, d api.Dyad, p int, want api.Errno) {
	t.Helper()
	for _, call := range []func(api.Dyad, int) (api.Ival, api.Errno){logcore.Log, logcore.Log1p} {
		if v, why := call(d, p); why != want || !reflect.DeepEqual(v, api.Ival{}) {
			t.Errorf("%d words, exponent %d, less %v, at %d bits: error %d, want %d", len(d.Abs), d.Exp, d.Neg, p, why, want)
		}
	}
}

// 11.1: what is wrong by its bits or by itself is refused for that first.
func TestWrong(t *testing.T) {
	for _, p := range wrongBits {
		for _, d := range slices.Concat(zeros, []api.Dyad{of(1, 0), of(3, 0), less(of(1, 0)), less(of(3, 0)), of(1, -20000), of(1, api.MaxExp)}) {
			refused(t, d, p, api.ErrRange)
		}
	}
	for _, d := range probe.WrongNumbers() {
		for _, p := range append([]int{api.MinBits, 64, api.MaxCore}, wrongBits...) {
			refused(t, d, p, api.ErrRange)
			refused(t, less(d), p, api.ErrRange)
		}
	}
}

// 11.1
func TestNoLogarithm(t *testing.T) {
	for _, p := range []int{api.MinBits, 64, api.MaxCore} {
		for _, d := range zeros {
			if v, why := logcore.Log(d, p); why != api.ErrWhole || !reflect.DeepEqual(v, api.Ival{}) {
				t.Errorf("Log of 0: error %d, want ErrWhole", why)
			}
		}
		for _, d := range slices.Concat(aboveZero(), far()) {
			if v, why := logcore.Log(less(d), p); why != api.ErrWhole || !reflect.DeepEqual(v, api.Ival{}) {
				t.Errorf("Log(%s): error %d, want ErrWhole", show(less(d)), why)
			}
		}
		for _, d := range []api.Dyad{of(1, 0), of(4, -2), {Abs: probe.Power2(200), Exp: -200}, sum(of(1, 0), of(1, -api.MaxExp)), of(3, -1), of(1, 1<<14), of(1, api.MaxExp), {Abs: probe.Filled(api.MaxLimbs, all)}} {
			if v, why := logcore.Log1p(less(d), p); why != api.ErrWhole || !reflect.DeepEqual(v, api.Ival{}) {
				t.Errorf("Log1p(%s): error %d, want ErrWhole", show(less(d)), why)
			}
		}
	}
}

// 11.1, 11.2: whatever is handed in, there is an answer: an error alone, or an interval that is right, in its one form.
func TestAnything(t *testing.T) {
	list := slices.Concat(probe.Numbers(), probe.GreatNumbers(), probe.WrongNumbers())
	sound := func(v api.Ival, why api.Errno) bool {
		return why == api.OK && isForm(v) || why != api.OK && reflect.DeepEqual(v, api.Ival{})
	}
	for i, d := range list {
		for _, p := range append([]int{api.MinBits, 70}, wrongBits...) {
			for j := range 5 {
				over, why := logcore.Over(api.Ival{Lo: d, Hi: list[(i+j*j*j)%len(list)]}, p)
				if !sound(over, why) {
					t.Errorf("Over from %d words, exponent %d, at %d bits: error %d", len(d.Abs), d.Exp, p, why)
				}
			}
			log, why := logcore.Log(d, p)
			more, whyToo := logcore.Log1p(d, p)
			if !sound(log, why) || !sound(more, whyToo) {
				t.Errorf("%d words, exponent %d, at %d bits: errors %d, %d", len(d.Abs), d.Exp, p, why, whyToo)
			}
		}
	}
}

// 11.3
func TestNewMemory(t *testing.T) {
	for _, d := range []api.Dyad{of(1, 0), of(2, 0), of(12, -3), {Abs: api.Nat{0, 6, 0}, Exp: -65}, {Abs: probe.Filled(20, all), Exp: -1280}, sum(of(1, 0), of(1, -5000)), of(1, -5000)} {
		for _, p := range []int{api.MinBits, 64, 500} {
			was := slices.Clone(d.Abs)
			d.Abs = slices.Grow(slices.Clone(d.Abs), 4)
			var answers []api.Nat
			for range 2 {
				log, _ := logcore.Log(d, p)
				more, _ := logcore.Log1p(d, p)
				over, _ := logcore.Over(api.Ival{Lo: d, Hi: d}, p)
				answers = append(answers, log.Lo.Abs, log.Hi.Abs, more.Lo.Abs, more.Hi.Abs, over.Lo.Abs, over.Hi.Abs)
			}
			if !probe.Apart(answers, d.Abs) {
				t.Errorf("answers of %s share memory", show(d))
			}
			if !slices.Equal(d.Abs, was) {
				t.Errorf("%v became %v", was, d.Abs)
			}
		}
	}
}

// The chapter's examples.
func TestExamples(t *testing.T) {
	if v, why := logcore.Log(dyad.Int(1), 64); why != api.OK || !reflect.DeepEqual(v, api.Ival{}) {
		t.Errorf("Log(1, 64) = %v, error %d", v, why)
	}
	ln2, _ := consts.Const(api.ConstLn2, 64)
	if v, why := logcore.Log(dyad.Int(2), 64); why != api.OK || !ival.Meets(v, ln2) {
		t.Errorf("Log(2, 64) = %v, error %d", v, why)
	}
	if _, why := logcore.Log(api.Dyad{}, 64); why != api.ErrWhole {
		t.Errorf("Log(0, 64): error %d", why)
	}
	if _, why := logcore.Log1p(dyad.Int(-1), 64); why != api.ErrWhole {
		t.Errorf("Log1p(-1, 64): error %d", why)
	}
	v, why := logcore.Log1p(of(1, -1074), 64)
	width := fresh(4000).Sub(float(v.Hi), float(v.Lo))
	if why != api.OK || width.Cmp(new(big.Float).SetMantExp(big.NewFloat(1), -1138)) > 0 || !ival.Meets(v, api.Ival{Lo: sum(of(1, -1074), less(of(1, -2148))), Hi: of(1, -1074)}) {
		t.Errorf("Log1p(2^-1074, 64) = %v, error %d", v, why)
	}
}
