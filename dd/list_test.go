package dd_test

import (
	"math"
	"slices"
	"testing"

	"ulp/api"
	"ulp/dd"
	"ulp/probe"
)

// lists have right floats: edges, such as cancel out, and some without a pattern, up to MaxPairs of them.
func lists() [][]float64 {
	list := [][]float64{
		nil, {}, {0}, {math.Copysign(0, -1)}, {1}, {-0x1p300}, {0x1p-300}, {0x1p100, 1, -0x1p100}, {0x1p300, 0x1p-300, -0x1p300}, {1, 0x1p-60, 0x1p-120}, {0x1p-120, 0x1p-60, 1}, {1, 2, 3}, {0.1, 0.2, -0.3},
		slices.Repeat([]float64{0.1}, api.MaxPairs), slices.Repeat([]float64{0x1p300}, api.MaxPairs), slices.Repeat([]float64{0x1p-300, -1.0 / 3}, api.MaxPairs/2), slices.Repeat([]float64{1, 0x1p-53, 0x1p-106}, 300),
	}
	s := probe.Source(83)
	for n := range 60 {
		some := make([]float64, 1+n*n/4)
		span := 1 + s.Below(590)
		for i := range some {
			some[i] = s.Float(s.Below(span) - span/2)
			switch s.Below(9) {
			case 0:
				some[i] = 0
			case 1:
				some[i] = -some[s.Below(i+1)]
			}
		}
		list = append(list, some)
	}
	return list
}

// points are where polynomials are asked for.
func points() []float64 {
	return []float64{0, math.Copysign(0, -1), 1, -1, math.Nextafter(1, 0), -math.Nextafter(1, 0), 0.5, -0.5, 0.1, 1.0 / 3, -2.0 / 3, 0x1p-300, -0x1p-300, 0x1p-53, 0x1.5555555555555p-20, 1 - 0x1p-10}
}

// P8.3
func TestSum(t *testing.T) {
	for _, l := range lists() {
		var want api.Pair
		for _, x := range l {
			want = sumOf(want, api.Pair{Hi: x})
		}
		if got, why := dd.Sum(l); why != api.OK || got != want {
			t.Errorf("Sum of %d floats = %x, error %d, want %x", len(l), got, why, want)
		}
	}
}

// P8.3
func TestPoly(t *testing.T) {
	for _, l := range lists() {
		for _, x := range points() {
			var want api.Pair
			for _, c := range l {
				want = sumOf(timesFloat(want, x), api.Pair{Hi: c})
			}
			if got, why := dd.Poly(l, x); why != api.OK || got != want {
				t.Errorf("Poly of %d floats at %x = %x, error %d, want %x", len(l), x, got, why, want)
			}
		}
	}
}

// P8.3: at 1 a polynomial is the sum of its coefficients, at 0 the last one.
func TestPolyIsKnown(t *testing.T) {
	for _, l := range lists() {
		sum, _ := dd.Sum(l)
		if got, why := dd.Poly(l, 1); why != api.OK || got != sum {
			t.Errorf("Poly of %d floats at 1 = %x, error %d, want %x", len(l), got, why, sum)
		}
		var last api.Pair
		if len(l) > 0 {
			last.Hi = l[len(l)-1]
		}
		if got, why := dd.Poly(l, 0); why != api.OK || got != last {
			t.Errorf("Poly of %d floats at 0 = %x, error %d, want %x", len(l), got, why, last)
		}
	}
}

func refused(t *testing.T, what string, got api.Pair, why, want api.Errno) {
	t.Helper()
	if why != want || got != (api.Pair{}) {
		t.Errorf("%s = %x, error %d, want error %d", what, got, why, want)
	}
}

// wrongFloats are not right.
func wrongFloats() []float64 {
	var list []float64
	for _, a := range wrongs() {
		if !dd.Right(api.Pair{Hi: a.Hi}) {
			list = append(list, a.Hi)
		}
	}
	return list
}

// P8.3
func TestWrongFloats(t *testing.T) {
	for _, bad := range wrongFloats() {
		for _, l := range [][]float64{{bad}, {1, bad}, {bad, 1}, append(slices.Repeat([]float64{1}, api.MaxPairs-1), bad)} {
			got, why := dd.Sum(l)
			refused(t, "Sum", got, why, api.ErrRange)
			for _, x := range []float64{0, 1, 2, bad} {
				got, why = dd.Poly(l, x)
				refused(t, "Poly", got, why, api.ErrRange)
			}
		}
	}
}

// P8.3
func TestWrongPoint(t *testing.T) {
	for _, x := range append(wrongFloats(), math.Nextafter(1, 2), -math.Nextafter(1, 2), 2, -2, 0x1p300) {
		for _, l := range [][]float64{nil, {}, {0}, {1, 2, 3}, slices.Repeat([]float64{1}, api.MaxPairs)} {
			got, why := dd.Poly(l, x)
			refused(t, "Poly", got, why, api.ErrRange)
		}
	}
}

// P8.3: ErrMany is told ahead of ErrRange.
func TestTooMany(t *testing.T) {
	for _, n := range []int{api.MaxPairs + 1, api.MaxPairs + 2, 1 << 16} {
		for _, x := range []float64{0, 1, math.NaN(), math.Inf(-1)} {
			long := slices.Repeat([]float64{x}, n)
			got, why := dd.Sum(long)
			refused(t, "Sum", got, why, api.ErrMany)
			for _, at := range []float64{0, 1, 2, math.NaN()} {
				got, why = dd.Poly(long, at)
				refused(t, "Poly", got, why, api.ErrMany)
			}
		}
	}
}

// P8.4
func TestUnchanged(t *testing.T) {
	for _, l := range append(lists(), []float64{1, math.Inf(1)}, slices.Repeat([]float64{7}, api.MaxPairs+1)) {
		room := append(slices.Clone(l), 7, 8, 9) // what an append to l would write over
		was := slices.Clone(room)
		dd.Sum(room[:len(l)])
		dd.Poly(room[:len(l)], 0.5)
		dd.Poly(room[:len(l)], 3)
		if !slices.Equal(room, was) {
			t.Errorf("a list of %d floats is changed", len(l))
		}
	}
}
