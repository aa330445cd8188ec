package power_test

import (
	"math"
	"reflect"
	"slices"
	"testing"

	"ulp/api"
	"ulp/ival"
	"ulp/power"
	"ulp/probe"
)

const (
	minusZero uint64 = 1 << 63
	infinity  uint64 = 0x7ff0000000000000
	greatest         = math.MaxFloat64
	least            = math.SmallestNonzeroFloat64
)

// fewBits are bits that take little time; wrongBits are those to which nothing is enclosed.
var (
	fewBits   = []int{api.MinBits, 9, 24, 53, 64, 100, 128, 160, 333}
	wrongBits = []int{api.MinBits - 1, 1, 0, -1, -64, math.MinInt, api.MaxBits + 1, api.MaxCore, api.MaxWork, math.MaxInt}
)

// notFinite are the infinities, and what is no number: quiet and signalling, of either sign.
var notFinite = []uint64{infinity, infinity | minusZero, 0x7ff8000000000000, 0xfff8000000000000, 0x7ff0000000000001, 0xfff0000000000001, 0x7fffffffffffffff, math.MaxUint64, 0x7ff4000000000000, 0xfff7ffffffffffff}

// pair is a number and an exponent.
type pair struct{ x, y float64 }

// bases are numbers above 0: next to 1 and far from it, of few bits and of many, subnormal ones, the least and the greatest.
func bases() []float64 {
	list := []float64{1, 2, 0.5, 3, 4, 10, 0.1, 0.75, 1.5, 1e10, 1e300, 1e-300, math.Pi, 81, 1 << 53, least, 3 * least, 0x1p-1022, 0x1.fffffffffffffp-1023, greatest, 0x1p1023}
	for _, x := range []float64{1, 2, 0.5, 4, 1 << 20} {
		list = append(list, math.Nextafter(x, 0), math.Nextafter(x, 9e9))
	}
	for n := 2; n < 52; n += 7 {
		list = append(list, 1+math.Ldexp(1, -n), 1-math.Ldexp(1, -n))
	}
	return list
}

// exponents are of either sign: whole ones, odd and even, halves and other parts of 1, great ones, such as are next to 0, and 0.
func exponents() []float64 {
	list := []float64{0}
	for _, y := range []float64{1, 2, 3, 4, 7, 8, 0.5, 0.25, 1.5, 0.75, 1.0 / 3, 10, 11, 63, 100.5, 1000, 12000, 1 << 20, 1<<53 - 1, 1 << 53, 1 << 60, 0x1p63, math.Nextafter(1, 2), 1e-5, 1e-18, 1e-80, 1e-300, least, greatest} {
		list = append(list, y, -y)
	}
	return list
}

// sized are pairs whose sizes are about given ones.
func sized(sizes ...float64) []pair {
	var list []pair
	for _, x := range bases() {
		for _, size := range sizes {
			y := size / math.Log2(x)
			if x == 1 || math.IsInf(y, 0) {
				continue
			}
			list = append(list, pair{x, y}, pair{x, math.Trunc(y)}, pair{-x, math.Trunc(y)}, pair{-x, 2*math.Trunc(y/2) + 1})
		}
	}
	return list
}

// within are pairs of which there is a value, and an enclosure must be answered.
func within() []pair {
	list := sized(0.001, 1, -1, 77, -1074.3, 1023.9, 2000, -2000, 5000, 11999, -11999.9, 12000, -12000)
	for _, x := range bases() {
		for _, y := range exponents() {
			list = append(list, pair{x, y}, pair{-x, y})
		}
	}
	s := probe.Source(36)
	for range 300 {
		x, size := math.Abs(s.Float(s.Below(2046)-1022)), s.Float(s.Below(28)-14)
		list = append(list, pair{x, size / math.Log2(x)})
	}
	return slices.DeleteFunc(list, func(c pair) bool { return !hasValue(c.x, c.y) || isBeyond(c.x, c.y, 12000) })
}

// some takes every n-th pair.
func some(list []pair, n int) []pair {
	var taken []pair
	for i := 0; i < len(list); i += n {
		taken = append(taken, list[i])
	}
	return taken
}

// P22.1
func TestEnclose(t *testing.T) {
	for i, c := range within() {
		check(t, c.x, c.y, fewBits[i%len(fewBits)])
	}
}

// P22.1
func TestManyBits(t *testing.T) {
	for i, c := range some(within(), 29) {
		check(t, c.x, c.y, []int{1000, api.MaxBits - 1, api.MaxBits}[i%3])
	}
	for _, p := range []int{api.MinBits, api.MaxBits} {
		check(t, 3, 12000/math.Log2(3)-1e-9, p)
		check(t, -3, -7571, p)
		check(t, math.Nextafter(1, 2), 0x1p65, p)
		check(t, math.Nextafter(1, 0), 0x1p66, p)
	}
}

// P22.1: all bits that are few.
func TestAllBits(t *testing.T) {
	for p := api.MinBits; p <= 200; p++ {
		check(t, 1+float64(p)/7, 3.7, p)
		check(t, float64(p)/201, float64(p)*11.3, p)
		check(t, -3, float64(p), p)
		check(t, 1-math.Ldexp(1, -p/4-1), math.Ldexp(5, p/4), p)
	}
}

// P22.1: values that are very near 1, to all bits: their ends have one sign, and have the value between.
func TestNearOne(t *testing.T) {
	for _, c := range []pair{{math.Nextafter(1, 2), least}, {math.Nextafter(1, 0), least}, {math.Nextafter(1, 2), -least}, {2, least}, {greatest, -least}, {least, least}, {3, 0x1p-700}} {
		for _, p := range []int{api.MinBits, 64, 1100, api.MaxBits} {
			check(t, c.x, c.y, p)
		}
	}
}

// P22.1: sizes up to 12000 are told, those above 15000 refused; between them either. Just there, and far.
func TestSizes(t *testing.T) {
	list := sized(11990, 12000, 12010, 13000, 14990, 15000, 15010, 16000, 1e5, 1e9, 1e300, -11990, -12000, -12010, -13000, -14990, -15000, -15010, -16000, -1e5, -1e9, -1e300)
	for _, y := range []float64{12000, 15000, 16000, 7500, 3750} {
		for _, y := range []float64{math.Nextafter(y, 0), y, math.Nextafter(y, 1e9), y + 1} {
			for _, x := range []float64{2, 4, 0.5, 0.25, 1 << 8, 0x1p-8} {
				list = append(list, pair{x, y}, pair{x, -y}, pair{-x, math.Trunc(y)})
			}
		}
	}
	for i, c := range list {
		p := fewBits[i%len(fewBits)]
		if !hasValue(c.x, c.y) {
			continue
		}
		v, why := power.Enclose2(api.FuncPow, word(c.x), word(c.y), p)
		many := why == api.ErrMany && reflect.DeepEqual(v, api.Ival{})
		switch {
		case isBeyond(c.x, c.y, 15000):
			if !many {
				t.Errorf("Enclose2(%g, %g, %d): error %d, want ErrMany", c.x, c.y, p, why)
			}
		case !many || !isBeyond(c.x, c.y, 12000):
			if why != api.OK || !right(v, value(c.x, c.y, p), p) {
				t.Errorf("Enclose2(%g, %g, %d) = %s, error %d", c.x, c.y, p, showIval(v), why)
			}
		}
	}
}

// P22.1: just at the sizes, by powers of 2.
func TestSizesOfPowers(t *testing.T) {
	for _, x := range []float64{2, -2, 0.5, 4, 0x1p-1074, 0x1p1000} {
		_, exp := apart(x)
		for _, size := range []float64{12000, -12000} {
			if y := size / float64(exp); y*float64(exp) == size && hasValue(x, y) {
				check(t, x, y, 64)
			}
		}
		for _, size := range []float64{15001, -15001, 1e6} {
			if y := math.Round(size / float64(exp)); math.Abs(y*float64(exp)) > 15000 {
				refused(t, api.FuncPow, word(x), word(y), 64, api.ErrMany)
			}
		}
	}
	refused(t, api.FuncPow, word(2), word(math.Nextafter(15000, 1e9)), 64, api.ErrMany)
	refused(t, api.FuncPow, word(2), word(math.Nextafter(-15000, -1e9)), 64, api.ErrMany)
	refused(t, api.FuncPow, word(greatest), word(greatest), 64, api.ErrMany)
	refused(t, api.FuncPow, word(-least), word(greatest), 64, api.ErrMany)
	refused(t, api.FuncPow, word(math.Nextafter(1, 2)), word(-greatest), api.MaxBits, api.ErrMany)
}

// outside are numbers and exponents of which there is no value.
func outside() [][2]uint64 {
	var list [][2]uint64
	finite := []uint64{0, minusZero, word(1), word(-1), word(2), word(-2.5), word(least), word(-greatest)}
	for _, wrong := range notFinite {
		for _, other := range append(finite, notFinite...) {
			list = append(list, [2]uint64{wrong, other}, [2]uint64{other, wrong})
		}
	}
	for _, y := range exponents() {
		list = append(list, [2]uint64{0, word(y)}, [2]uint64{minusZero, word(y)})
		if !isWhole(y) {
			for _, x := range bases() {
				list = append(list, [2]uint64{word(-x), word(y)})
			}
		}
	}
	return append(list, [2]uint64{word(-2), word(16000.5)}, [2]uint64{word(-0.5), word(0x1p51 + 0.5)}, [2]uint64{word(-1), word(0.5)})
}

// P22.1: ErrWhole, whatever the size would be.
func TestOutside(t *testing.T) {
	for _, c := range outside() {
		for _, p := range []int{api.MinBits, 64, api.MaxBits} {
			refused(t, api.FuncPow, c[0], c[1], p, api.ErrWhole)
		}
	}
}

// P22.1: all that is not FuncPow, and bits just beyond those that may be asked for: ahead of all else.
func TestWrong(t *testing.T) {
	list := append(outside()[:20], [2]uint64{word(2), word(3)}, [2]uint64{word(2), word(1e9)}, [2]uint64{word(-2), word(0.5)}, [2]uint64{0, 0})
	for _, c := range list {
		for n := range 256 {
			if f := api.Func(n); f != api.FuncPow {
				refused(t, f, c[0], c[1], 64, api.ErrRange)
				refused(t, f, c[0], c[1], api.MaxBits+1, api.ErrRange)
			}
		}
		for _, p := range wrongBits {
			refused(t, api.FuncPow, c[0], c[1], p, api.ErrRange)
		}
	}
	for _, p := range []int{api.MinBits, api.MaxBits} {
		check(t, 2.5, 3.5, p)
	}
}

// P22.1: of x below 0 the value is below 0 if y is odd, and else above.
func TestSigns(t *testing.T) {
	for _, x := range bases() {
		for _, y := range exponents() {
			if !hasValue(-x, y) || isBeyond(x, y, 12000) {
				continue
			}
			v, why := power.Enclose2(api.FuncPow, word(-x), word(y), 64)
			want := 1
			if math.Mod(y, 2) != 0 {
				want = -1
			}
			if sign, one := ival.Sign(v); why != api.OK || !one || sign != want {
				t.Errorf("Enclose2(%g, %g): sign %d, error %d", -x, y, sign, why)
			}
		}
	}
}

// Whatever is handed in, there is an answer: an error alone, or an enclosure that is right, in its one form, and narrow.
func TestAnything(t *testing.T) {
	s := probe.Source(37)
	for i := range 3000 {
		x, y := s.Word(), s.Word()
		if i%2 == 0 { // so that sizes are small often
			y = word(s.Float(s.Below(20) - 10))
		}
		for _, p := range []int{fewBits[i%len(fewBits)], wrongBits[i%len(wrongBits)]} {
			v, why := power.Enclose2(api.FuncPow, x, y, p)
			if why == api.OK && !(isForm(v) && narrow(v, p)) || why != api.OK && !reflect.DeepEqual(v, api.Ival{}) {
				t.Errorf("Enclose2(%x, %x, %d) = %s, error %d", x, y, p, showIval(v), why)
			}
		}
		if d, is, why := power.Exact(x, y); (why != api.OK || !is) && !reflect.DeepEqual(d, api.Dyad{}) || why != api.OK && is {
			t.Errorf("Exact(%x, %x) = %s, %v, error %d", x, y, show(d), is, why)
		}
		if over, is := power.Far(x, y); over && !is {
			t.Errorf("Far(%x, %x) = true, false", x, y)
		}
		power.Odd(x, y)
	}
}

// P22.4
func TestNewMemory(t *testing.T) {
	for _, c := range append(some(within(), 41), pair{1, 5}, pair{-1, 5}, pair{2, 0}, pair{4, 0.5}, pair{-3, 3}) {
		for _, p := range []int{api.MinBits, 64, 500} {
			var answers []api.Nat
			for range 2 {
				v, _ := power.Enclose2(api.FuncPow, word(c.x), word(c.y), p)
				d, _, _ := power.Exact(word(c.x), word(c.y))
				answers = append(answers, v.Lo.Abs, v.Hi.Abs, d.Abs)
			}
			if !probe.Apart(answers) {
				t.Errorf("answers of %g to the power of %g to %d bits share memory", c.x, c.y, p)
			}
		}
	}
}
