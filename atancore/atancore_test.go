package atancore_test

import (
	"math"
	"reflect"
	"slices"
	"testing"

	"ulp/api"
	"ulp/atancore"
	"ulp/dyad"
	"ulp/ival"
	"ulp/probe"
)

const (
	all  = uint64(math.MaxUint64)
	most = 1 << 14 // the farthest top of which an angle must be told
)

var (
	wrongBits = []int{api.MinBits - 1, 1, 0, -1, -64, math.MinInt, api.MaxCore + 1, api.MaxWork, math.MaxInt}
	someBits  = []int{api.MinBits, 9, 24, 53, 64, 100, 128, 160, 333}
	zeros     = []api.Dyad{{}, {Neg: true}, {Abs: api.Nat{}}, {Abs: api.Nat{0, 0}}, {Neg: true, Abs: api.Nat{0}, Exp: -api.MaxExp}, {Exp: api.MaxExp}}
)

// amounts are above 0 and not far: edges, powers of 2 with what lies beside them, forms that are not the one form, and some without a pattern.
func amounts() []api.Dyad {
	list := []api.Dyad{
		of(1, 0), of(3, 0), of(10, 0), of(3, -1), of(12, -3), {Abs: api.Nat{0, 1, 0}, Exp: -66}, of(1, -1074), of(1, 1023), of(0x1fffffffffffff, 971), of(1, -1000),
		of(1, most), of(1, -most), sum(of(1, -most), of(1, -api.MaxExp)), sum(of(1, most), of(1, -most)), {Abs: probe.Filled(256, all)}, {Abs: probe.Filled(700, all), Exp: -32000}, sum(of(1, 0), of(1, -api.MaxExp)), sum(of(1, 0), less(of(1, -api.MaxExp))),
		sum(of(1, -700), of(1, -3000)), {Abs: append(probe.Filled(9, 0), all, 0), Exp: -700}, {Abs: probe.Filled(3, all), Exp: -192},
	}
	for n := -300; n < 300; n += 13 {
		list = append(list, of(1, n), of(3, n), sum(of(1, n), of(1, n-60)), sum(of(1, n), less(of(1, n-60))), sum(of(1, n), of(1, n-500)))
	}
	for n := -40; n < 40; n += 3 {
		list = append(list, of(1, n), sum(of(1, n), of(1, n-20)), sum(of(1, n), less(of(1, n-20))))
	}
	s := probe.Source(1)
	for range 60 {
		n := 1 + s.Below(5)
		list = append(list, api.Dyad{Abs: append(s.Natural(n), 1|s.Word()), Exp: s.Below(200) - 100 - 64*n})
	}
	for range 60 {
		d, _ := dyad.From(math.Float64bits(math.Abs(s.Float(s.Below(2046) - 1022))))
		list = append(list, d)
	}
	return list
}

// bothSigns are the numbers, and less each of them.
func bothSigns(list []api.Dyad) []api.Dyad {
	for _, d := range slices.Clone(list) {
		list = append(list, less(d))
	}
	return list
}

// P12.1
func TestAtan(t *testing.T) {
	for i, d := range bothSigns(amounts()) {
		for j := range 2 {
			checkAtan(t, d, someBits[(i+4*j)%len(someBits)])
		}
	}
}

// coordinates are 0, in two forms, and numbers of both signs whose tops are at most 2^14 apart.
func coordinates() []api.Dyad {
	list := []api.Dyad{of(1, 0), of(3, -1), of(12, -3), of(7, 200), of(5, -200), {Abs: probe.Filled(3, all), Exp: -100}, of(0x123456789abcdef, -55), sum(of(1, 0), of(1, -900)), of(1, 8000), of(1, -8000), {Abs: probe.Filled(40, all), Exp: -2560}}
	return append(bothSigns(list), api.Dyad{}, api.Dyad{Neg: true, Abs: api.Nat{0}, Exp: 7})
}

// P12.1: every quarter of the plane, and its axes.
func TestAngle(t *testing.T) {
	for i, y := range coordinates() {
		for j, x := range coordinates() {
			if !dyad.Zero(y) || !dyad.Zero(x) {
				checkAngle(t, y, x, someBits[(i+j)%len(someBits)])
			}
		}
	}
}

// P12.1: points without a pattern, and those near the axes and the lines between them.
func TestMorePoints(t *testing.T) {
	s := probe.Source(5)
	for i := range 400 {
		y, x := s.Number(), s.Number()
		if !dyad.Zero(y) || !dyad.Zero(x) {
			checkAngle(t, y, x, someBits[i%len(someBits)])
		}
		d := s.Number()
		if dyad.Zero(d) {
			continue
		}
		little, _ := dyad.Shift(d, -1-s.Below(300))
		for _, near := range []api.Dyad{little, less(little), sum(d, little), less(sum(d, little))} {
			checkAngle(t, near, d, someBits[i%len(someBits)])
			checkAngle(t, d, near, someBits[i%len(someBits)])
		}
	}
}

// P12.1
func TestManyBits(t *testing.T) {
	list := bothSigns([]api.Dyad{of(1, 0), of(1, most), of(1, -most), of(0x123456789abcdef, -56), of(0x123456789abcdef, -30), of(1, -1000), sum(of(1, 0), less(of(1, -api.MaxExp)))})
	for _, d := range list {
		for _, p := range []int{1000, api.MaxBits, api.MaxCore - 1, api.MaxCore} {
			checkAtan(t, d, p)
		}
		checkAngle(t, of(3, 0), d, api.MaxCore)
		checkAngle(t, d, less(of(3, 0)), api.MaxCore)
	}
}

// P12.1: all bits that are few.
func TestAllBits(t *testing.T) {
	for p := api.MinBits; p <= 300; p++ {
		checkAtan(t, of(uint64(2*p+1), -8), p)
		checkAtan(t, sum(of(1, 0), less(of(1, -p))), p)
		checkAtan(t, less(of(uint64(p), -p)), p)
		checkAngle(t, of(1, -p), less(of(uint64(p), -4)), p)
	}
}

// P12.1: 0, and the half-line on which an angle is 0, are told as from 0 to 0; on the other half-line it is above 0.
func TestZero(t *testing.T) {
	for _, zero := range zeros {
		for _, p := range []int{api.MinBits, 64, api.MaxCore} {
			if v, why := atancore.Atan(zero, p); why != api.OK || !reflect.DeepEqual(v, api.Ival{}) {
				t.Errorf("Atan of 0 to %d bits = %s, error %d", p, showIval(v), why)
			}
			for _, x := range []api.Dyad{of(1, 0), of(12, -3), of(3, 5000), of(1, -most), of(1, most), {Abs: api.Nat{0, 0, 7, 0}, Exp: -100}} {
				if v, why := atancore.Angle(zero, x, p); why != api.OK || !reflect.DeepEqual(v, api.Ival{}) {
					t.Errorf("Angle(0, %s, %d) = %s, error %d", show(x), p, showIval(v), why)
				}
				checkAngle(t, zero, less(x), p)
			}
		}
	}
}

// P12.1
func TestNoAngle(t *testing.T) {
	for _, y := range zeros {
		for _, x := range zeros {
			for _, p := range []int{api.MinBits, 64, api.MaxCore} {
				refusedAngle(t, y, x, p, api.ErrWhole)
			}
			for _, p := range wrongBits {
				refusedAngle(t, y, x, p, api.ErrRange)
			}
		}
	}
}

func refusedAtan(t *testing.T, d api.Dyad, p int, want api.Errno) {
	t.Helper()
	if v, why := atancore.Atan(d, p); why != want || !reflect.DeepEqual(v, api.Ival{}) {
		t.Errorf("Atan of %d words, exponent %d, to %d bits: error %d, want %d", len(d.Abs), d.Exp, p, why, want)
	}
}

func refusedAngle(t *testing.T, y, x api.Dyad, p int, want api.Errno) {
	t.Helper()
	if v, why := atancore.Angle(y, x, p); why != want || !reflect.DeepEqual(v, api.Ival{}) {
		t.Errorf("Angle of %d words, exponent %d, and %d words, exponent %d, to %d bits: error %d, want %d", len(y.Abs), y.Exp, len(x.Abs), x.Exp, p, why, want)
	}
}

// P12.1: what is wrong by its bits or by itself is refused for that first.
func TestWrong(t *testing.T) {
	fine := []api.Dyad{{}, of(1, 0), less(of(1, 0)), of(1, -20000), of(1, api.MaxExp)}
	for _, p := range wrongBits {
		for _, d := range fine {
			refusedAtan(t, d, p, api.ErrRange)
			refusedAngle(t, d, of(1, 0), p, api.ErrRange)
			refusedAngle(t, less(of(1, 0)), d, p, api.ErrRange)
		}
	}
	for _, d := range bothSigns(probe.WrongNumbers()) {
		for _, p := range append([]int{api.MinBits, 64, api.MaxCore}, wrongBits...) {
			refusedAtan(t, d, p, api.ErrRange)
			refusedAngle(t, d, d, p, api.ErrRange)
			for _, other := range fine {
				refusedAngle(t, d, other, p, api.ErrRange)
				refusedAngle(t, other, d, p, api.ErrRange)
			}
		}
	}
}

// far are amounts whose tops are just beyond 2^14, and as far as they may be.
func far() []api.Dyad {
	return []api.Dyad{
		of(1, most+1), of(1, -most-1), sum(of(1, -most), less(of(1, -api.MaxExp))), of(1, api.MaxExp), of(1, -api.MaxExp), of(2, api.MaxExp), of(3, -api.MaxExp), of(3, -20000), of(1, -32700),
		{Abs: probe.Filled(api.MaxLimbs, all), Exp: api.MaxExp}, {Abs: probe.Filled(api.MaxLimbs, all)}, {Abs: probe.Filled(api.MaxLimbs, all), Exp: -api.MaxExp}, {Abs: probe.Power2(64*api.MaxLimbs - 1), Exp: api.MaxExp}, {Abs: append(probe.Filled(api.MaxLimbs, all), 0, 0), Exp: -7},
	}
}

// P12.1: tops just beyond 2^14, and as far as they may be; and such numbers with one another.
func TestFar(t *testing.T) {
	list := bothSigns(far())
	for _, p := range []int{api.MinBits, 64, 1000} {
		for i, d := range list {
			v, why := atancore.Atan(d, p)
			rightOrMany(t, v, why, d, of(1, 0), p)
			for _, other := range []api.Dyad{{}, of(3, 0), less(of(1, 14)), list[(i+3)%len(list)], list[(i+17)%len(list)]} {
				v, why = atancore.Angle(d, other, p)
				rightOrMany(t, v, why, d, other, p)
				v, why = atancore.Angle(other, d, p)
				rightOrMany(t, v, why, other, d, p)
			}
		}
	}
}

// P12.1: tops that lie just 2^14 apart must be told, and so must the greatest and the nearest to 0; what lies farther apart may be refused.
func TestTopsApart(t *testing.T) {
	for _, p := range []int{api.MinBits, 64, api.MaxCore} {
		for _, pair := range [][2]api.Dyad{{of(1, most), of(1, 0)}, {of(3, most-1), of(1, 0)}, {of(1, most/2), of(1, -most/2)}, {of(1, most), of(1, most)}, {of(3, -most), of(1, -most)}, {of(1, 0), of(1, -most)}} {
			for _, x := range []api.Dyad{pair[1], less(pair[1])} {
				checkAngle(t, pair[0], x, p)
				checkAngle(t, x, pair[0], p)
				checkAngle(t, x, less(pair[0]), p)
			}
		}
		for _, pair := range [][2]api.Dyad{{of(1, most/2), of(1, -most/2-1)}, {of(1, most), of(1, -1)}, {of(1, most), of(1, -most)}} {
			for _, x := range []api.Dyad{pair[1], less(pair[1])} {
				v, why := atancore.Angle(pair[0], x, p)
				rightOrMany(t, v, why, pair[0], x, p)
				v, why = atancore.Angle(x, less(pair[0]), p)
				rightOrMany(t, v, why, x, less(pair[0]), p)
			}
		}
	}
}

// P12.1: whatever is handed in, there is an answer: an error alone, or an enclosure that is right, in its one form, and narrow.
func TestAnything(t *testing.T) {
	list := slices.Concat(probe.Numbers(), probe.GreatNumbers(), probe.WrongNumbers())
	sound := func(v api.Ival, why api.Errno, p int) bool {
		return why == api.OK && isForm(v) && ival.Narrow(v, p) || why != api.OK && reflect.DeepEqual(v, api.Ival{})
	}
	for i, d := range list {
		for _, p := range append([]int{api.MinBits, 70}, wrongBits...) {
			if v, why := atancore.Atan(d, p); !sound(v, why, p) {
				t.Errorf("Atan of %d words, exponent %d, to %d bits: error %d", len(d.Abs), d.Exp, p, why)
			}
			for j := range 5 {
				x := list[(i+j*j*j)%len(list)]
				if v, why := atancore.Angle(d, x, p); !sound(v, why, p) {
					t.Errorf("Angle of %d words, exponent %d, and %d words, exponent %d, to %d bits: error %d", len(d.Abs), d.Exp, len(x.Abs), x.Exp, p, why)
				}
			}
		}
	}
}

// P12.2
func TestNewMemory(t *testing.T) {
	list := bothSigns([]api.Dyad{{}, of(1, 0), of(12, -3), {Abs: api.Nat{0, 6, 0}, Exp: -65}, {Abs: probe.Filled(20, all), Exp: -1270}, of(1, -5000), {Abs: append(api.Nat{1}, probe.Filled(20, 0)...), Exp: -5000}})
	for i, d := range list {
		for _, p := range []int{api.MinBits, 64, 500} {
			other := list[(i+1)%len(list)]
			was, wasToo := slices.Clone(d.Abs), slices.Clone(other.Abs)
			d.Abs, other.Abs = slices.Grow(slices.Clone(d.Abs), 4), slices.Grow(slices.Clone(other.Abs), 4)
			var answers []api.Nat
			for range 2 {
				v, _ := atancore.Atan(d, p)
				w, _ := atancore.Angle(d, other, p)
				answers = append(answers, v.Lo.Abs, v.Hi.Abs, w.Lo.Abs, w.Hi.Abs)
			}
			if !probe.Apart(answers, d.Abs, other.Abs) {
				t.Errorf("answers of %s share memory", show(d))
			}
			if !slices.Equal(d.Abs, was) || !slices.Equal(other.Abs, wasToo) {
				t.Errorf("%v became %v, or %v %v", was, d.Abs, wasToo, other.Abs)
			}
		}
	}
}

// The chapter's examples.
func TestExamples(t *testing.T) {
	if v, why := atancore.Atan(api.Dyad{}, 8); why != api.OK || !reflect.DeepEqual(v, api.Ival{}) {
		t.Errorf("Atan(0, 8) = %v, error %d", v, why)
	}
	if v, why := atancore.Atan(dyad.Int(1), 8); why != api.OK || !ival.Narrow(v, 8) || !ival.Meets(v, api.Ival{Lo: of(25, -5), Hi: of(101, -7)}) {
		t.Errorf("Atan(1, 8) = %v, error %d", v, why)
	}
	checkAtan(t, of(1, 32768), 8)
	tiny := of(1, -1000)
	if v, why := atancore.Atan(tiny, 99); why != api.OK || !ival.Narrow(v, 99) || !ival.Meets(v, api.Ival{Lo: sum(tiny, less(of(1, -3000))), Hi: sum(tiny, less(of(1, -3003)))}) {
		t.Errorf("Atan(2^-1000, 99) = %v, error %d", v, why)
	}
	if v, why := atancore.Angle(api.Dyad{}, dyad.Int(1), 8); why != api.OK || !reflect.DeepEqual(v, api.Ival{}) {
		t.Errorf("Angle(0, 1, 8) = %v, error %d", v, why)
	}
	checkAngle(t, api.Dyad{}, dyad.Int(-1), 8)
	checkAngle(t, dyad.Int(-1), api.Dyad{}, 8)
	refusedAngle(t, api.Dyad{}, api.Dyad{}, 8, api.ErrWhole)
}
