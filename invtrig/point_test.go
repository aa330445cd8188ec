package invtrig_test

import (
	"math"
	"reflect"
	"slices"
	"testing"

	"ulp/api"
	"ulp/bits"
	"ulp/invtrig"
	"ulp/ival"
	"ulp/probe"
)

// point is one other than 0, 0.
type point struct{ y, x uint64 }

// round are the point, and those that are it mirrored at each axis and at both.
func round(y, x uint64) []point {
	return []point{{y, x}, {y, bits.Neg(x)}, {bits.Neg(y), x}, {bits.Neg(y), bits.Neg(x)}}
}

// points are in each quarter and on the axes: of few bits and of many, near 0 and far, next to an axis and next to where x and y are of one amount, with quotients from the least to the greatest.
func points() []point {
	sides := []uint64{1, 3, leastNorm, 0x3c90000000000001, one - 1, one, one + 1, 0x4008000000000000, 0x4330000000000001, greatest}
	var list []point
	for _, y := range sides {
		list = append(list, round(y, 0)...)
		list = append(list, round(0, y)...)
		for _, x := range sides {
			list = append(list, round(y, x)...)
		}
	}
	s := probe.Source(20)
	for range 40 {
		y, x := math.Abs(s.Float(s.Below(2046)-1022)), math.Abs(s.Float(s.Below(2046)-1022))
		list = append(list, round(math.Float64bits(y), math.Float64bits(x))...)
		y, x = math.Abs(s.Float(s.Below(8)-4)), math.Abs(s.Float(s.Below(8)-4))
		list = append(list, round(math.Float64bits(y), math.Float64bits(x))...)
	}
	return list
}

// 19.1, 19.2
func TestIs2(t *testing.T) {
	for n := range 256 {
		f := api.Func(n)
		want := slices.Contains(two, f)
		if invtrig.Is2(f) != want {
			t.Errorf("Is2(%d) = %v", f, !want)
		}
		if want {
			continue
		}
		for _, p := range append([]int{api.MinBits, 64, api.MaxBits}, wrongBits...) {
			for _, at := range append(round(one, 0x4000000000000000), point{0, 0}, point{infinity, one}, point{one, 0x7ff8000000000000}) {
				refused2(t, f, at.y, at.x, p, api.ErrRange)
			}
		}
	}
}

// 19.2
func TestEnclose2(t *testing.T) {
	for i, at := range points() {
		check2(t, at.y, at.x, few[i%len(few)])
	}
}

// 19.2
func TestManyBits2(t *testing.T) {
	for _, at := range slices.Concat(round(1, greatest), round(greatest, 1), round(one, 0x4008000000000000), round(0, one), round(one, 0), round(one, one+1)) {
		for _, p := range []int{1000, api.MaxBits - 1, api.MaxBits} {
			check2(t, at.y, at.x, p)
		}
	}
}

// 19.2: zeros are 0, whatever their sign; on the axes and between them half turns are known.
func TestKnownAngles(t *testing.T) {
	for _, c := range []struct {
		y, x uint64
		want api.Dyad
	}{
		{0, one, of(0, 0)}, {minusZero, one, of(0, 0)}, {0, bits.Neg(one), of(1, 0)}, {minusZero, bits.Neg(one), of(1, 0)},
		{one, 0, of(1, -1)}, {one, minusZero, of(1, -1)}, {bits.Neg(one), 0, less(of(1, -1))}, {bits.Neg(one), minusZero, less(of(1, -1))},
		{one, one, of(1, -2)}, {one, bits.Neg(one), of(3, -2)}, {bits.Neg(one), one, less(of(1, -2))}, {bits.Neg(one), bits.Neg(one), less(of(3, -2))},
		{greatest, greatest, of(1, -2)}, {1, bits.Neg(1), of(3, -2)}, {0, bits.Neg(greatest), of(1, 0)}, {minusZero, 1, of(0, 0)}, {bits.Neg(1), minusZero, less(of(1, -1))},
	} {
		for _, p := range append([]int{api.MaxBits}, few...) {
			v, why := invtrig.Enclose2(api.FuncAtan2pi, c.y, c.x, p)
			if why != api.OK || !isForm(v) || !narrow(v, p) || !ival.Has(v, c.want) {
				t.Errorf("Enclose2(%d, %x, %x, %d) = %s, error %d", api.FuncAtan2pi, c.y, c.x, p, showIval(v), why)
			}
			check2(t, c.y, c.x, p)
		}
	}
}

// 19.2: one of the two is not finite, or both are zeros; bits that are wrong are refused first.
func TestRefused2(t *testing.T) {
	var outside []point
	for _, x := range notFinite {
		for _, y := range append([]uint64{0, minusZero, 1, one, bits.Neg(one), greatest}, notFinite...) {
			outside = append(outside, point{y, x}, point{x, y})
		}
	}
	outside = append(outside, round(0, 0)...)
	for _, f := range two {
		for _, at := range outside {
			for _, p := range []int{api.MinBits, 64, api.MaxBits} {
				refused2(t, f, at.y, at.x, p, api.ErrWhole)
			}
			for _, p := range wrongBits {
				refused2(t, f, at.y, at.x, p, api.ErrRange)
			}
		}
		for _, at := range slices.Concat(round(one, one), round(0, one), round(1, greatest)) {
			for _, p := range wrongBits {
				refused2(t, f, at.y, at.x, p, api.ErrRange)
			}
		}
	}
}

// 19.2: whatever is handed in, there is an answer.
func TestAnything2(t *testing.T) {
	s := probe.Source(8)
	floats := probe.Floats()
	pick := func() uint64 {
		if s.Below(3) == 0 {
			return s.Word()
		}
		return slices.Concat(floats, notFinite, []uint64{0, minusZero})[s.Below(len(floats)+len(notFinite)+2)]
	}
	for i := range 2000 {
		f, y, x := api.Func(s.Word()), pick(), pick()
		if i%4 > 0 {
			f = two[i%2]
		}
		for _, p := range append([]int{few[i%len(few)]}, wrongBits...) {
			v, why := invtrig.Enclose2(f, y, x, p)
			if why == api.OK && !(isForm(v) && narrow(v, p)) || why != api.OK && !reflect.DeepEqual(v, api.Ival{}) {
				t.Errorf("Enclose2(%d, %x, %x, %d) = %s, error %d", f, y, x, p, showIval(v), why)
			}
		}
	}
}

// 19.3
func TestNewMemory2(t *testing.T) {
	for _, f := range two {
		for _, at := range slices.Concat(round(0, one), round(one, 0), round(one, one), round(1, greatest), round(greatest, 3), round(0x3fb999999999999a, 0x4008000000000000)) {
			for _, p := range []int{api.MinBits, 64, 500} {
				var answers []api.Nat
				for range 2 {
					v, _ := invtrig.Enclose2(f, at.y, at.x, p)
					answers = append(answers, v.Lo.Abs, v.Hi.Abs)
				}
				if !probe.Apart(answers) {
					t.Errorf("answers of Enclose2(%d, %x, %x, %d) share memory", f, at.y, at.x, p)
				}
			}
		}
	}
}
