package circle_test

import (
	"reflect"
	"testing"

	"ulp/api"
	"ulp/circle"
	"ulp/dyad"
	"ulp/ival"
	"ulp/probe"
	"ulp/sincore"
)

func point(d api.Dyad) api.Ival { return api.Ival{Lo: d, Hi: d} }

func less(v api.Ival) api.Ival {
	v, _ = ival.Neg(v)
	return v
}

// A point goes by right angles against the clock.
func TestAt(t *testing.T) {
	rest := point(api.Dyad{Abs: api.Nat{3}, Exp: -2})
	sine, cosine, _ := sincore.Both(rest, 64)
	for n, want := range [4][2]api.Ival{{cosine, sine}, {less(sine), cosine}, {less(cosine), less(sine)}, {sine, less(cosine)}} {
		q, why := circle.At(n, rest, 64)
		if why != api.OK || !reflect.DeepEqual([2]api.Ival{q.Along, q.Up}, want) {
			t.Errorf("At %d right angles: %v, error %d", n, q, why)
		}
		mirrored := q.Mirrored()
		if !reflect.DeepEqual(mirrored.Along, q.Along) || !reflect.DeepEqual(mirrored.Up, less(q.Up)) {
			t.Errorf("mirrored at %d right angles: %v", n, mirrored)
		}
		up, whyUp := q.Sine()
		along, whyAlong := q.Cosine()
		if whyUp != api.OK || whyAlong != api.OK || !reflect.DeepEqual(up, q.Up) || !reflect.DeepEqual(along, q.Along) {
			t.Errorf("sine and cosine at %d right angles: %v, %v", n, up, along)
		}
	}
}

// The tangent is the sine over the cosine, cut to the bits that were asked for; there is none where the cosine is 0.
func TestTangent(t *testing.T) {
	rest := point(api.Dyad{Neg: true, Abs: api.Nat{1}, Exp: -3})
	for n := range 4 {
		q, _ := circle.At(n, rest, 64)
		want, _ := ival.Div(q.Up, q.Along, 64)
		if v, why := q.Tangent(); why != api.OK || !reflect.DeepEqual(v, want) {
			t.Errorf("the tangent at %d right angles: %v, error %d", n, v, why)
		}
		mirrored, why := q.Mirrored().Tangent()
		if why != api.OK || !reflect.DeepEqual(mirrored, less(want)) {
			t.Errorf("the mirrored tangent at %d right angles: %v, error %d", n, mirrored, why)
		}
		q, _ = circle.At(n, api.Ival{}, 64)
		v, why := q.Tangent()
		if wantWhy := [2]api.Errno{api.OK, api.ErrWhole}[n%2]; why != wantWhy || !reflect.DeepEqual(v, api.Ival{}) {
			t.Errorf("the tangent of %d right angles: %v, error %d", n, v, why)
		}
	}
}

// What sincore refuses is refused.
func TestRefused(t *testing.T) {
	for _, rest := range []api.Ival{point(dyad.Int(2)), {Lo: dyad.Int(1)}, {Lo: dyad.Int(-3), Hi: dyad.Int(1)}} {
		_, _, want := sincore.Both(rest, 64)
		if q, why := circle.At(1, rest, 64); why != want || why == api.OK || !reflect.DeepEqual(q, circle.Point{}) {
			t.Errorf("At: error %d, want %d", why, want)
		}
	}
}

// The lists of a point share no memory with one another or with what was handed in.
func TestNewMemory(t *testing.T) {
	for n := range 4 {
		rest := api.Ival{Lo: api.Dyad{Abs: api.Nat{3}, Exp: -3}, Hi: api.Dyad{Abs: api.Nat{1}, Exp: -1}}
		q, _ := circle.At(n, rest, 64)
		v, _ := q.Tangent()
		if !probe.Apart([]api.Nat{q.Along.Lo.Abs, q.Along.Hi.Abs, q.Up.Lo.Abs, q.Up.Hi.Abs, v.Lo.Abs, v.Hi.Abs}, rest.Lo.Abs, rest.Hi.Abs) {
			t.Errorf("%d right angles: lists share memory", n)
		}
	}
}
