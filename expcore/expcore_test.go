package expcore_test

import (
	"math"
	"reflect"
	"slices"
	"testing"

	"ulp/api"
	"ulp/consts"
	"ulp/dyad"
	"ulp/expcore"
	"ulp/ival"
	"ulp/probe"
)

const all = uint64(math.MaxUint64)

var calls = []call{{"Exp", expcore.Exp, powerOfE}, {"Expm1", expcore.Expm1, lessOne}}

func of(n uint64, exp int) api.Dyad { return api.Dyad{Abs: api.Nat{n}, Exp: exp} }

func less(d api.Dyad) api.Dyad {
	d.Neg = !d.Neg
	return d
}

// sum is that of two numbers, where it has room.
func sum(a, b api.Dyad) api.Dyad {
	c, why := dyad.Add(a, b)
	if why != api.OK {
		panic("a sum without room")
	}
	return c
}

// amounts are above 0 and at most MaxArg: edges, powers of 2 with what lies beside them, forms that are not the one form, and some without a pattern.
func amounts() []api.Dyad {
	most, least := of(1, 14), of(1, -api.MaxExp)
	list := []api.Dyad{
		of(1, 0), of(3, 0), of(10, 0), of(3, -1), of(12, -3), {Abs: api.Nat{0, 1, 0}, Exp: -66}, of(709, 0), of(11000, 0), of(0x2c5c85fd, -30),
		most, sum(most, less(least)), sum(most, less(of(1, -50))), {Abs: probe.Filled(200, all), Exp: 14 - 64*200}, {Abs: probe.Filled(3, all), Exp: -192},
		of(1, -1000), of(1, -1074), of(3, -1075), sum(of(1, -700), of(1, -3000)), {Abs: append(probe.Filled(9, 0), all, 0), Exp: -700},
	}
	for n := -70; n < 14; n += 3 {
		power := of(1, n)
		list = append(list, power, sum(power, of(1, n-60)), sum(power, less(of(1, n-60))), sum(power, of(1, n-300)))
	}
	s := probe.Source(1)
	for range 60 {
		n := 1 + s.Below(5)
		list = append(list, api.Dyad{Abs: append(s.Natural(n), 1|s.Word()), Exp: s.Below(90) - 140 - 64*n})
	}
	for range 40 {
		d, _ := dyad.From(math.Float64bits(math.Abs(s.Float(s.Below(54) - 40))))
		list = append(list, d)
	}
	return list
}

// bothSigns are the numbers, and less each of them.
func bothSigns(list []api.Dyad) []api.Dyad {
	for _, d := range slices.Clone(list) {
		list = append(list, less(d))
	}
	return list
}

// P10.1
func TestEnclose(t *testing.T) {
	few := []int{api.MinBits, 9, 24, 53, 64, 100, 128, 160, 333}
	for _, c := range calls {
		for i, d := range bothSigns(amounts()) {
			for j := range 3 {
				c.check(t, d, few[(i+3*j)%len(few)])
			}
		}
	}
}

// P10.1
func TestManyBits(t *testing.T) {
	list := bothSigns([]api.Dyad{of(1, 0), of(1, 14), of(0x123456789abcdef, -56), of(0x123456789abcdef, -46), of(1, -1000), sum(of(1, 14), less(of(1, -api.MaxExp)))})
	for _, c := range calls {
		for _, d := range list {
			for _, p := range []int{1000, api.MaxBits, api.MaxCore - 1, api.MaxCore} {
				c.check(t, d, p)
			}
		}
	}
}

// P10.1: all bits that are few, at numbers that take the most steps.
func TestAllBits(t *testing.T) {
	for _, c := range calls {
		for p := api.MinBits; p <= 400; p++ {
			c.check(t, sum(of(1, 14), less(of(1, -p))), p)
			c.check(t, sum(of(1, 14), less(of(1, -p))), api.MinBits)
			c.check(t, less(of(uint64(2*p+1), -8)), p)
		}
	}
}

// P10.1
func TestZero(t *testing.T) {
	for _, zero := range []api.Dyad{{}, {Neg: true}, {Abs: api.Nat{}}, {Abs: api.Nat{0, 0}}, {Neg: true, Abs: api.Nat{0}, Exp: -api.MaxExp}, {Exp: api.MaxExp}} {
		for _, p := range []int{api.MinBits, 64, api.MaxCore} {
			if v, why := expcore.Expm1(zero, p); why != api.OK || !reflect.DeepEqual(v, api.Ival{}) {
				t.Errorf("Expm1 of 0 to %d bits = %v, error %d", p, v, why)
			}
			if v, why := expcore.Exp(zero, p); why != api.OK || !isForm(v) || !narrow(v, p) || !ival.Has(v, dyad.Int(1)) {
				t.Errorf("Exp of 0 to %d bits = %v, error %d", p, v, why)
			}
		}
	}
}

// P10.1: what is just too great, of either sign, and far beyond; what is not looked at is refused for its bits first.
func TestTooGreat(t *testing.T) {
	most := of(1, 14)
	list := []api.Dyad{
		sum(most, of(1, 0)), sum(most, of(1, -api.MaxExp)), sum(most, of(1, -40)), of(1, 15), of(1, api.MaxExp), of(2, api.MaxExp),
		{Abs: probe.Power2(15)}, {Abs: probe.Filled(api.MaxLimbs, all), Exp: -api.MaxExp}, {Abs: probe.Filled(api.MaxLimbs, all), Exp: api.MaxExp},
	}
	for _, c := range calls {
		for _, d := range bothSigns(list) {
			for _, p := range []int{api.MinBits, 64, api.MaxCore} {
				c.refused(t, d, p, api.ErrMany)
			}
			c.refused(t, d, api.MinBits-1, api.ErrRange)
			c.refused(t, d, api.MaxCore+1, api.ErrRange)
		}
	}
}

// P10.1
func TestWrong(t *testing.T) {
	bits := []int{api.MinBits - 1, 1, 0, -1, -64, math.MinInt, api.MaxCore + 1, api.MaxWork, math.MaxInt}
	for _, c := range calls {
		for _, p := range bits {
			for _, d := range []api.Dyad{{}, of(1, 0), less(of(1, 0)), of(1, -20000), of(1, 14)} {
				c.refused(t, d, p, api.ErrRange)
			}
		}
		for _, d := range probe.WrongNumbers() {
			for _, p := range append([]int{api.MinBits, 64, api.MaxCore}, bits...) {
				c.refused(t, d, p, api.ErrRange)
				c.refused(t, less(d), p, api.ErrRange)
			}
		}
	}
}

// checkTiny holds the enclosures of a number very near 0 against t < e^t - 1 < t + t^2.
func checkTiny(t *testing.T, d api.Dyad, p int) {
	t.Helper()
	v, why := expcore.Expm1(d, p)
	w, whyToo := expcore.Exp(d, p)
	if why != api.OK || whyToo != api.OK || !isForm(v) || !isForm(w) || !narrow(v, p) || !narrow(w, p) {
		t.Errorf("%s, %d bits: errors %d, %d, or an enclosure that is wide, or not in its form", show(d), p, why, whyToo)
		return
	}
	x, one := fresh(1<<17).Set(float(d)), float(of(1, 0))
	more := fresh(1<<17).Mul(x, x)
	more.Add(more, x)
	if float(v.Hi).Cmp(x) <= 0 || float(v.Lo).Cmp(more) >= 0 {
		t.Errorf("Expm1(%s, %d) has the value not in it", show(d), p)
	}
	if float(w.Hi).Cmp(x.Add(x, one)) <= 0 || float(w.Lo).Cmp(more.Add(more, one)) >= 0 {
		t.Errorf("Exp(%s, %d) has the value not in it", show(d), p)
	}
}

// P10.1: the nearest to 0 that must be told, with few bits and with many; what lies nearer may be refused, but if it is not, it is told rightly.
func TestTiny(t *testing.T) {
	top := -1 << 14
	told := []api.Dyad{of(1, top), of(3, top), sum(of(1, top), of(1, -api.MaxExp)), sum(of(1, top+1), less(of(1, -api.MaxExp))), of(1, top+1), of(0x1234567, -9000), of(1, -100), of(5, -70)}
	for _, d := range bothSigns(told) {
		for _, p := range []int{api.MinBits, 53, 1000, api.MaxCore} {
			checkTiny(t, d, p)
		}
	}
	nearer := []api.Dyad{of(1, top-1), sum(of(1, top), less(of(1, -api.MaxExp))), of(1, -20000), of(1, -api.MaxExp)}
	for _, d := range bothSigns(nearer) {
		for _, p := range []int{api.MinBits, 53, api.MaxCore} {
			_, why := expcore.Exp(d, p)
			_, whyToo := expcore.Expm1(d, p)
			if why == api.ErrMany && whyToo == api.ErrMany {
				calls[0].refused(t, d, p, api.ErrMany)
				calls[1].refused(t, d, p, api.ErrMany)
				continue
			}
			checkTiny(t, d, p)
		}
	}
}

// P10.1: e itself, and the powers of e that are 2 and 10, as consts has them.
func TestConstants(t *testing.T) {
	for _, p := range []int{8, 64, 333, api.MaxCore} {
		e, _ := consts.Const(api.ConstE, p)
		if v, _ := expcore.Exp(of(1, 0), p); !ival.Meets(v, e) {
			t.Errorf("Exp(1, %d) and e do not meet", p)
		}
		for k, n := range map[api.ConstKind]int64{api.ConstLn2: 2, api.ConstLn10: 10} {
			log, _ := consts.Const(k, p)
			low, _ := expcore.Exp(log.Lo, p)
			high, _ := expcore.Exp(log.Hi, p)
			v, why := ival.Join(low, high)
			if why != api.OK || !ival.Has(v, dyad.Int(n)) {
				t.Errorf("to %d bits e to the power of ln %d is not %d", p, n, n)
			}
		}
	}
}

// P10.2
func TestNewMemory(t *testing.T) {
	for _, d := range bothSigns([]api.Dyad{{}, of(1, 0), of(12, -3), {Abs: api.Nat{0, 6, 0}, Exp: -65}, {Abs: probe.Filled(20, all), Exp: -1270}, of(1, -5000)}) {
		for _, p := range []int{api.MinBits, 64, 500} {
			was := slices.Clone(d.Abs)
			d.Abs = slices.Grow(slices.Clone(d.Abs), 4)
			var answers []api.Nat
			for _, c := range calls {
				for range 2 {
					v, _ := c.of(d, p)
					answers = append(answers, v.Lo.Abs, v.Hi.Abs)
				}
			}
			if !probe.Apart(answers, d.Abs) {
				t.Errorf("answers of %s share memory", show(d))
			}
			if !slices.Equal(d.Abs, was) {
				t.Errorf("%v became %v", was, d.Abs)
			}
		}
	}
}

// The chapter's examples.
func TestExamples(t *testing.T) {
	v, why := expcore.Exp(dyad.Int(1), 8)
	billion := api.Ival{Lo: dyad.Int(1e9), Hi: dyad.Int(1e9)}
	scaled, _ := ival.Mul(v, billion, 100)
	if why != api.OK || !ival.Narrow(v, 8) || !ival.Meets(scaled, api.Ival{Lo: dyad.Int(2718281828), Hi: dyad.Int(2718281829)}) {
		t.Errorf("Exp(1, 8) = %v, error %d", v, why)
	}
	if v, why := expcore.Expm1(api.Dyad{}, 8); why != api.OK || !reflect.DeepEqual(v, api.Ival{}) {
		t.Errorf("Expm1(0, 8) = %v, error %d", v, why)
	}
	if v, why := expcore.Exp(api.Dyad{}, 8); why != api.OK || !ival.Has(v, dyad.Int(1)) {
		t.Errorf("Exp(0, 8) = %v, error %d", v, why)
	}
	tiny := of(1, -1000)
	if v, why := expcore.Expm1(tiny, 99); why != api.OK || !ival.Narrow(v, 99) || !ival.Meets(v, api.Ival{Lo: tiny, Hi: sum(tiny, of(1, -2000))}) {
		t.Errorf("Expm1(2^-1000, 99) = %v, error %d", v, why)
	}
	if _, why := expcore.Exp(dyad.Int(1<<14+1), 8); why != api.ErrMany {
		t.Errorf("Exp(2^14 + 1, 8): error %d", why)
	}
	if _, why := expcore.Exp(dyad.Int(1), 7); why != api.ErrRange {
		t.Errorf("Exp(1, 7): error %d", why)
	}
}
