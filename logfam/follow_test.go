package logfam_test

import (
	"math"
	"slices"
	"testing"

	"ulp/api"
	"ulp/bits"
	"ulp/consts"
	"ulp/dyad"
	"ulp/expcore"
	"ulp/ival"
	"ulp/logfam"
)

// enclosed is an enclosure that must be answered.
func enclosed(t *testing.T, f api.Func, x uint64, p int) api.Ival {
	t.Helper()
	v, why := logfam.Enclose(f, x, p)
	if why != api.OK {
		t.Fatalf("Enclose(%d, %x, %d): error %d", f, x, p, why)
	}
	return v
}

// some are numbers of which many have products that are binary64 numbers.
func some() []uint64 {
	var list []uint64
	for _, x := range []float64{1, 2, 0.5, 3, 5, 10, 0.1, 0.75, 1.5, 1 + math.Ldexp(1, -26), 1 - math.Ldexp(1, -26), 1 + math.Ldexp(1, -52), 1 - math.Ldexp(1, -53), math.Ldexp(1, -1074), math.Ldexp(1, -1022), math.Ldexp(1, 1023), math.MaxFloat64, 1e22, 0x1.2345p300} {
		list = append(list, math.Float64bits(x))
	}
	return list
}

// P16.5
func TestProducts(t *testing.T) {
	count := 0
	for _, k := range kinds[:3] {
		for _, x := range some() {
			for _, y := range some() {
				both, _ := dyad.Mul(number(x), number(y))
				z, is := dyad.To(both)
				if !is {
					continue
				}
				count++
				for _, p := range []int{api.MinBits, 64, 200} {
					v, why := ival.Add(enclosed(t, k.f, x, p), enclosed(t, k.f, y, p), api.MaxWork)
					if why != api.OK || !ival.Meets(v, enclosed(t, k.f, z, p)) {
						t.Errorf("function %d, %x and %x to %d bits: the sum does not meet the logarithm of the product", k.f, x, y, p)
					}
				}
			}
		}
	}
	if count < 300 {
		t.Errorf("only %d products were looked at", count)
	}
}

// P16.6: also of the last three.
func TestBases(t *testing.T) {
	for i, log := range []api.Func{api.FuncLog, api.FuncLog1p} {
		for j, c := range []struct {
			f api.Func
			k api.ConstKind
		}{{api.FuncLog2, api.ConstLn2}, {api.FuncLog10, api.ConstLn10}} {
			f := c.f + 3*api.Func(i)
			for n, x := range kinds[3*i].domain() {
				p, q := few[n%len(few)], few[(n+j+1)%len(few)]
				factor, _ := consts.Const(c.k, q)
				v, why := ival.Mul(enclosed(t, f, x, p), factor, api.MaxWork)
				if why != api.OK || !ival.Meets(v, enclosed(t, log, x, q)) {
					t.Errorf("function %d of %x to %d bits does not meet function %d to %d", f, x, p, log, q)
				}
			}
		}
	}
}

// P16.7
func TestOneMore(t *testing.T) {
	count := 0
	for i, k := range kinds[3:] {
		for j, x := range append(aboveMinusOne(), some()...) {
			more, is := dyad.To(k.of(x))
			if !is {
				continue
			}
			count++
			p, q := few[j%len(few)], few[(j+2)%len(few)]
			if !ival.Meets(enclosed(t, k.f, x, p), enclosed(t, kinds[i].f, more, q)) {
				t.Errorf("function %d of %x to %d bits does not meet function %d of 1 more to %d", k.f, x, p, kinds[i].f, q)
			}
		}
	}
	if count < 100 {
		t.Errorf("only %d numbers were looked at", count)
	}
}

// checkWholeIn: the logarithm of what Whole tells has its exponent in it.
func checkWholeIn(t *testing.T, f api.Func, base int, x uint64, p int) {
	t.Helper()
	n, is := logfam.Whole(base, x)
	if !is || !ival.Has(enclosed(t, f, x, p), dyad.Int(int64(n))) {
		t.Errorf("Enclose(%d, %x, %d) has %d, %v not in it", f, x, p, n, is)
	}
}

// P16.8
func TestWholeInside(t *testing.T) {
	for x, n := range powersOf2() {
		checkWholeIn(t, api.FuncLog2, 2, x, few[(n+1074)%len(few)])
	}
	for x := range powersOf10() {
		for _, p := range append([]int{api.MaxBits}, few...) {
			checkWholeIn(t, api.FuncLog10, 10, x, p)
		}
	}
}

// P16.9: also of enclosures to different bits.
func TestRising(t *testing.T) {
	for _, k := range kinds {
		list := k.domain()
		slices.SortFunc(list, bits.Order)
		for _, p := range []int{api.MinBits, 33, 64} {
			was, fine := enclosed(t, k.f, list[0], p), enclosed(t, k.f, list[0], 150)
			for _, x := range list[1:] {
				v := enclosed(t, k.f, x, p)
				first, _ := dyad.Cmp(was.Lo, v.Hi)
				second, _ := dyad.Cmp(fine.Lo, v.Hi)
				if first > 0 || second > 0 {
					t.Errorf("function %d to %d bits falls at %x", k.f, p, x)
				}
				was, fine = v, enclosed(t, k.f, x, 150)
			}
		}
	}
}

// P16.9
func TestSigns(t *testing.T) {
	for _, k := range kinds {
		for i, x := range k.domain() {
			p := few[i%len(few)]
			want, _ := dyad.Cmp(k.of(x), of(1, 0))
			if sign, same := ival.Sign(enclosed(t, k.f, x, p)); !same || sign != want {
				t.Errorf("function %d of %x to %d bits has the sign %d, %v, want %d", k.f, x, p, sign, same, want)
			}
		}
	}
}

// P16.10: also of 1 more than x.
func TestBack(t *testing.T) {
	for _, k := range []kind{kinds[0], kinds[3]} {
		for i, x := range k.domain() {
			p, q := few[i%len(few)], few[(i+3)%len(few)]
			v := enclosed(t, k.f, x, p)
			low, why := expcore.Exp(v.Lo, q)
			high, whyToo := expcore.Exp(v.Hi, q)
			below, _ := dyad.Cmp(low.Lo, k.of(x))
			above, _ := dyad.Cmp(high.Hi, k.of(x))
			if why != api.OK || whyToo != api.OK || below > 0 || above < 0 {
				t.Errorf("e to the power of the ends of function %d of %x to %d bits has it not between: errors %d, %d", k.f, x, p, why, whyToo)
			}
		}
	}
}
