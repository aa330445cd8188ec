package exact

import (
	"ulp/api"
	"ulp/dyad"
	"ulp/reduce"
)

// turn is where so many half turns lead: the right angles next to them, by 4, and what is left, in half turns.
type turn struct {
	rightAngles int
	rest        api.Dyad
}

// heights are the sines of none, one, two, three right angles.
var heights = [4]int64{0, 1, 0, -1}

// slants are in how many quarters of half a turn points are seen above the axis: halfway to the left, straight up, halfway to the right.
var slants = [3]int64{3, 2, 1}

// turnOf brings half turns near 0, exactly. (Of every binary64 what is left has room.)
func turnOf(x api.Dyad) turn {
	n, rest, _ := reduce.Turns(x)
	return turn{n, rest}
}

// turned are the cases of a function of half turns that has whole numbers for its values there.
func turned(value func(turn) (int64, bool)) cases {
	return func(x api.Dyad) (api.Dyad, bool) {
		n, is := value(turnOf(x))
		if !is {
			return api.Dyad{}, false
		}
		return dyad.Int(n), true
	}
}

// hasTangent tells whether half turns do not lead straight up or down.
func hasTangent(x api.Dyad) bool {
	t := turnOf(x)
	return !dyad.Zero(t.rest) || t.rightAngles%2 == 0
}

func (t turn) sine() (int64, bool) { return heights[t.rightAngles], dyad.Zero(t.rest) }

func (t turn) cosine() (int64, bool) { return heights[(t.rightAngles+1)%4], dyad.Zero(t.rest) }

func (t turn) tangent() (int64, bool) {
	if dyad.Zero(t.rest) {
		return 0, true
	}
	// Halfway between two right angles the even one counts as the next: so the sign of what is left is that of the tangent.
	for _, sign := range []int64{1, -1} {
		if order, _ := dyad.Cmp(t.rest, inQuarters(sign)); order == 0 {
			return sign, true
		}
	}
	return 0, false
}

// measure tells an angle of so many quarters of half a turn, if it is dyadic in that measure.
type measure func(quarters int64) (api.Dyad, bool)

// radians: pi is not dyadic, so that only 0 is.
func radians(quarters int64) (api.Dyad, bool) { return api.Dyad{}, quarters == 0 }

func halfTurns(quarters int64) (api.Dyad, bool) { return inQuarters(quarters), true }

// direction is in how many quarters of half a turn a point other than 0, 0 is seen, if it lies on an axis or halfway between two.
func direction(up, along api.Dyad) (int64, bool) {
	side := against(along, 0)
	if dyad.Zero(up) {
		return 2 - 2*int64(side), true
	}
	n := slants[side+1]
	if up.Neg {
		n = -n
	}
	return n, side == 0 || sameAmount(up, along)
}

func sameAmount(a, b api.Dyad) bool {
	a.Neg, b.Neg = false, false
	order, _ := dyad.Cmp(a, b)
	return order == 0
}
