package atancore

import (
	"ulp/api"
	"ulp/fixed"
	"ulp/nat"
)

// point is one of the plane that is not on the half-line to the right, by its amounts; behind: x is below 0.
type point struct {
	y, x   fixed.Number
	behind bool
}

// angle is the amount of the point's angle, reckoned with w bits. It is halved so often that its series ends soon; how often does not hang on the point.
//
// Cotangents are reckoned with: that of half an angle is the cotangent and the root of 1 and its square, added, of which nothing falls as the cotangent rises. So no end of the angle falls as the point goes round, however near two points lie.
func (at point) angle(w int) fixed.Span {
	n := halvings(w)
	return fixed.Between(func(up bool) fixed.Number {
		cotangent := at.ofHalf(w, !up)
		for range n {
			cotangent = halved(cotangent, w, !up)
		}
		sine := fixed.Whole(1).Over(hypotenuse(cotangent, w, !up), w, up)
		return sine.Times(slope(sine, w, up), w, up).Scale(n + 1)
	})
}

// ofHalf is the cotangent of half the point's angle. Behind, it is the tangent of what is left to a quarter of a turn: so nothing is lost there, either.
func (at point) ofHalf(w int, up bool) fixed.Number {
	switch {
	case at.y.Zero():
		return fixed.Number{}
	case at.behind:
		return fixed.Whole(1).Over(halved(at.x.Over(at.y, w, !up), w, !up), w, up)
	default:
		return halved(at.x.Over(at.y, w, up), w, up)
	}
}

// halvings is how often the angle is halved behind the first time: twice, so that its sine is at most 1/2, or more often. Each time makes every term tell two bits more, but takes some 16 times as long as a term.
func halvings(w int) int {
	n := 2
	for 32*n*n < w {
		n++
	}
	return n
}

func halved(cotangent fixed.Number, w int, up bool) fixed.Number {
	return cotangent.Plus(hypotenuse(cotangent, w, up), w, up)
}

// hypotenuse is the root of 1 and the square.
func hypotenuse(side fixed.Number, w int, up bool) fixed.Number {
	return side.Times(side, w, up).Plus(fixed.Whole(1), w, up).Root(w, up)
}

// slope is an angle, divided by its sine, which is at most 1/2.
func slope(sine fixed.Number, w int, up bool) fixed.Number {
	var sum api.Nat
	var units uint64
	terms(sine.Times(sine, w, up).Units(w, up), w)(func(term api.Nat) bool {
		sum = fixed.Plus(sum, term)
		// A product is less than 3 units too small if the one ahead of it is, as at most a fourth of that is left, and it is rounded twice; a term so less than 2, the first that is told as 0, with all behind it, less than 3.
		units += 2
		return len(term) > 0
	})
	if up {
		sum = fixed.Plus(sum, nat.Of(units+1))
	}
	return fixed.Number{Abs: sum, Exp: -w}
}

// terms are 1, 1/2 q / 3, 1/2 3/4 q^2 / 5 and so on, one by one, as long as they are asked for; all in units of 2^-w, rounded down.
func terms(q api.Nat, w int) func(more func(term api.Nat) bool) {
	return func(more func(term api.Nat) bool) {
		product := fixed.One(w)
		for n := uint64(1); more(fixed.Over(product, nat.Of(n))); n += 2 {
			product = fixed.Shift(fixed.Times(product, q), -w)
			product = fixed.Over(fixed.Times(product, nat.Of(n)), nat.Of(n+1))
		}
	}
}
