package trigpi_test

import (
	"slices"
	"testing"

	"ulp/api"
	"ulp/bits"
	"ulp/dyad"
	"ulp/ival"
	"ulp/trigpi"
)

// enclosed is an enclosure that must be answered; both are two.
func enclosed(t *testing.T, f api.Func, x uint64, p int) api.Ival {
	t.Helper()
	v, why := trigpi.Enclose(f, x, p)
	if why != api.OK {
		t.Fatalf("Enclose(%d, %x, %d): error %d", f, x, p, why)
	}
	return v
}

func both(t *testing.T, d api.Dyad, p int) (sine, cosine api.Ival) {
	t.Helper()
	sine, cosine, why := trigpi.Both(d, p)
	if why != api.OK {
		t.Fatalf("Both(%s, %d): error %d", show(d), p, why)
	}
	return sine, cosine
}

// product is that of two enclosures; added, their sum; mirrored, less one.
func product(v, w api.Ival) api.Ival {
	v, _ = ival.Mul(v, w, api.MaxWork)
	return v
}

func added(v, w api.Ival) api.Ival {
	v, _ = ival.Add(v, w, api.MaxWork)
	return v
}

func mirrored(v api.Ival) api.Ival {
	v, _ = ival.Neg(v)
	return v
}

// finite are numbers of all kinds, of either sign.
func finite() []uint64 {
	return append(bothSigns(slices.Concat(amounts(), quarters())), 0, minusZero)
}

// hasTangent tells whether there is one: not of a whole number and a half.
func hasTangent(x uint64) bool {
	twice := times(number(x), of(2, 0))
	y, is := dyad.To(twice)
	return !is || !bits.Odd(y)
}

// squaresMeet tells whether the squares have room, and 1 in them, added; or have no room.
func squaresMeet(sine, cosine api.Ival) bool {
	u, why := ival.Mul(sine, sine, api.MaxWork)
	v, whyToo := ival.Mul(cosine, cosine, api.MaxWork)
	return why != api.OK || whyToo != api.OK || ival.Has(added(u, v), of(1, 0))
}

// P18.4: also of enclosures to different bits.
func TestCircle(t *testing.T) {
	for i, x := range finite() {
		p, q, r := few[i%len(few)], few[(i+2)%len(few)], few[(i+3)%len(few)]
		sine, cosine := enclosed(t, api.FuncSinpi, x, p), enclosed(t, api.FuncCospi, x, q)
		if !ival.Has(added(product(sine, sine), product(cosine, cosine)), of(1, 0)) {
			t.Errorf("the squares of the sine and the cosine of %x, added, do not have 1 in them", x)
		}
		if hasTangent(x) && !ival.Meets(product(enclosed(t, api.FuncTanpi, x, r), cosine), sine) {
			t.Errorf("the tangent of %x times the cosine does not meet the sine", x)
		}
	}
	for i, d := range either(halfTurns()) {
		if sine, cosine := both(t, d, few[i%len(few)]); !squaresMeet(sine, cosine) {
			t.Errorf("the squares of the sine and the cosine of %s, added, do not have 1 in them", show(d))
		}
	}
}

// P18.5
func TestMirror(t *testing.T) {
	for i, x := range finite() {
		p, q := few[i%len(few)], few[(i+2)%len(few)]
		for _, f := range three {
			if f == api.FuncTanpi && !hasTangent(x) {
				continue
			}
			v, w := enclosed(t, f, bits.Neg(x), p), enclosed(t, f, x, q)
			if f != api.FuncCospi {
				w = mirrored(w)
			}
			if !ival.Meets(v, w) {
				t.Errorf("function %d of less %x to %d bits does not meet that of it to %d", f, x, p, q)
			}
		}
	}
	for i, d := range halfTurns() {
		sine, cosine := both(t, less(d), few[i%len(few)])
		other, along := both(t, d, few[(i+2)%len(few)])
		if !ival.Meets(sine, mirrored(other)) || !ival.Meets(cosine, along) {
			t.Errorf("sine and cosine of less %s do not meet those of it", show(d))
		}
	}
}

// P18.5
func TestTurns(t *testing.T) {
	count := 0
	for i, d := range append(either(halfTurns()), api.Dyad{}) {
		half, why := dyad.Add(d, of(1, 0))
		whole, whyToo := dyad.Add(d, of(2, 0))
		if why != api.OK || whyToo != api.OK {
			continue
		}
		count++
		p, q := few[i%len(few)], few[(i+2)%len(few)]
		sine, cosine := both(t, d, p)
		round, roundAlong := both(t, whole, q)
		across, acrossAlong := both(t, half, q)
		if !ival.Meets(sine, round) || !ival.Meets(cosine, roundAlong) {
			t.Errorf("sine and cosine of %s and of 2 more do not meet", show(d))
		}
		if !ival.Meets(sine, mirrored(across)) || !ival.Meets(cosine, mirrored(acrossAlong)) {
			t.Errorf("sine and cosine of %s do not meet less those of 1 more", show(d))
		}
		for _, pair := range [][2]api.Ival{{sine, across}, {cosine, acrossAlong}} {
			here, known := ival.Sign(pair[0])
			there, knownToo := ival.Sign(pair[1])
			if !known || !knownToo || here != -there {
				t.Errorf("sine or cosine of %s has the sign %d, of 1 more %d", show(d), here, there)
			}
		}
	}
	if count < 300 {
		t.Errorf("only %d numbers were looked at", count)
	}
}

// P18.6
func TestSums(t *testing.T) {
	list := append(either([]api.Dyad{of(1, 0), of(1, -1), of(3, -2), of(1, -3), of(1, -30), of(7, -200), of(11, 0), of(5, -3), of(0x123456789abcdef, -40), of(0x123456789abcdef, 100), of(1, 1022), sum(of(1, -1), less(of(1, -300)))}), api.Dyad{})
	for i, a := range list {
		for j, b := range list {
			p := few[(i+j)%len(few)]
			sineA, cosineA := both(t, a, p)
			sineB, cosineB := both(t, b, p)
			sine, cosine := both(t, sum(a, b), p)
			if !ival.Meets(sine, added(product(sineA, cosineB), product(cosineA, sineB))) {
				t.Errorf("%s and %s to %d bits: the sum's sine does not meet what theirs give", show(a), show(b), p)
			}
			if !ival.Meets(cosine, added(product(cosineA, cosineB), mirrored(product(sineA, sineB)))) {
				t.Errorf("%s and %s to %d bits: the sum's cosine does not meet what theirs give", show(a), show(b), p)
			}
		}
	}
}

// P18.7: the square of the sine of 1/4 has 1/2 in it, the tangent 1; so it is of all odd quarters, but for the tangent's sign.
func TestEighths(t *testing.T) {
	count := 0
	for _, x := range bothSigns(quarters()) {
		often := times(number(x), of(4, 0))
		if often.Exp != 0 {
			continue // it is a whole number, or a half
		}
		count++
		slope := of(1, 0)
		slope.Neg = often.Neg != (often.Abs[0]%4 == 3)
		for _, p := range []int{api.MinBits, 53, 64, 300, api.MaxBits} {
			for _, f := range three[:2] {
				if v := enclosed(t, f, x, p); !ival.Has(product(v, v), of(1, -1)) {
					t.Errorf("the square of function %d of %x to %d bits does not have 1/2 in it", f, x, p)
				}
			}
			if v := enclosed(t, api.FuncTanpi, x, p); !ival.Has(v, slope) {
				t.Errorf("the tangent of %x to %d bits: %s", x, p, showIval(v))
			}
		}
	}
	if count < 80 {
		t.Errorf("only %d odd quarters were looked at", count)
	}
}

// P18.7: whole numbers and halves.
func TestWholesAndHalves(t *testing.T) {
	known := [4][2]int64{{0, 1}, {1, 0}, {0, -1}, {-1, 0}} // sine and cosine, by the halves
	for n := int64(-40); n <= 40; n++ {
		for _, more := range []api.Dyad{{}, of(1, 1), of(1, 30), less(of(1, 600)), of(1, api.MaxExp-70)} {
			half, _ := dyad.Shift(dyad.Int(n), -1)
			d := sum(half, more)
			for _, p := range []int{api.MinBits, 64, api.MaxBits} {
				sine, cosine := both(t, d, p)
				want := known[(n%4+4)%4]
				if !ival.Has(sine, dyad.Int(want[0])) || !ival.Has(cosine, dyad.Int(want[1])) || !narrow(sine, p) || !narrow(cosine, p) {
					t.Errorf("Both(%s, %d) = %s, %s", show(d), p, showIval(sine), showIval(cosine))
				}
			}
		}
	}
}

// No number of an enclosure of a sine or a cosine lies beyond 1 or -1.
func TestBounds(t *testing.T) {
	unit := api.Ival{Lo: less(of(1, 0)), Hi: of(1, 0)}
	for i, x := range finite() {
		for _, f := range three[:2] {
			if v := enclosed(t, f, x, few[i%len(few)]); !ival.Within(v, unit) {
				t.Errorf("Enclose(%d, %x, %d) = %s", f, x, few[i%len(few)], showIval(v))
			}
		}
	}
}
