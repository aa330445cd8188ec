// Package circle has points of the circle of the radius 1, enclosed: there the cosine of an angle goes along, its sine up. It is no layer: trig and trigpi, each of which counts right angles in its own way, turn them here.
package circle

import (
	"ulp/api"
	"ulp/ival"
	"ulp/sincore"
)

// Point is where an angle leads; what is reckoned with it is cut to so many bits.
type Point struct {
	Along, Up api.Ival
	bits      int
}

// At is the point of so many right angles, by 4, and of what is left, of which an enclosure is told that goes not beyond -1 or 1.
func At(quarters int, rest api.Ival, bits int) (Point, api.Errno) {
	sine, cosine, why := sincore.Both(rest, bits)
	if why != api.OK {
		return Point{}, why
	}
	return ways()[quarters](Point{Along: cosine, Up: sine, bits: bits}), api.OK
}

// ways are those that a point goes by none, one, two, three right angles.
func ways() [4]func(Point) Point {
	return [4]func(Point) Point{Point.stay, Point.left, Point.across, Point.right}
}

func (q Point) stay() Point { return q }

func (q Point) left() Point { return Point{Along: less(q.Up), Up: q.Along, bits: q.bits} }

func (q Point) across() Point { return Point{Along: less(q.Along), Up: less(q.Up), bits: q.bits} }

func (q Point) right() Point { return Point{Along: q.Up, Up: less(q.Along), bits: q.bits} }

// Mirrored is the point of less the angle.
func (q Point) Mirrored() Point { return Point{Along: q.Along, Up: less(q.Up), bits: q.bits} }

// Sine is that of the angle.
func (q Point) Sine() (api.Ival, api.Errno) { return q.Up, api.OK }

// Cosine is that of the angle.
func (q Point) Cosine() (api.Ival, api.Errno) { return q.Along, api.OK }

// Tangent is that of the angle; ErrWhole, if the cosine is 0.
func (q Point) Tangent() (api.Ival, api.Errno) {
	v, why := ival.Div(q.Up, q.Along, q.bits)
	if why == api.ErrZero {
		return api.Ival{}, api.ErrWhole
	}
	return v, why
}

// less is the enclosure of the other sign.
func less(v api.Ival) api.Ival {
	v, _ = ival.Neg(v)
	return v
}
