package sincore

import (
	"ulp/api"
	"ulp/fixed"
	"ulp/nat"
)

// sine is that of an angle from 0 to 1, reckoned with w bits: the angle times 1 - t^2 / (2 3) + t^4 / (2 3 4 5) .., so that nothing is lost near 0.
func sine(t fixed.Number, w int) fixed.Span {
	slope := series(t, 2, w)
	return fixed.Between(func(up bool) fixed.Number {
		return t.Cut(w, up).Times(slope.End(up), w, up)
	})
}

// cosine is that of an angle from 0 to 1: 1 - t^2 / (1 2) + t^4 / (1 2 3 4) ..
func cosine(t fixed.Number, w int) fixed.Span { return series(t, 1, w) }

// series is the sum of terms whose signs change, from 1 on: it is not above 1.
func series(t fixed.Number, first uint64, w int) fixed.Span {
	next := terms(t.Times(t, w, false).Units(w, false), first, w)
	var sums [2]api.Nat // of what is added, of what is taken off
	// A term is less than 2 units too small if the one ahead of it is: of that less than 2 are left, the square makes 1 more, rounding the product 1; all of it is divided, by 2 at first, where the one ahead is exact, then by 12 or more, and rounded again. So is the first that is told as 0; those behind it get less, with signs that change, and so make it no more.
	units := uint64(2)
	for place := 0; ; place++ {
		term := next()
		if len(term) == 0 {
			break
		}
		sums[place%2] = fixed.Plus(sums[place%2], term)
		units += 2
	}
	middle, away := fixed.Less(sums[0], sums[1]), nat.Of(units)
	return fixed.Units(fixed.Less(middle, away), least(fixed.Plus(middle, away), fixed.One(w)), w)
}

// terms gives one term of the series after the other: 1, and then the one ahead times the square, divided by the next two numbers from the first one on; all in units of 2^-w, rounded down.
func terms(square api.Nat, first uint64, w int) func() api.Nat {
	term, n := fixed.One(w), first
	return func() api.Nat {
		told := term
		term = fixed.Over(fixed.Shift(fixed.Times(term, square), -w), nat.Of(n*(n+1)))
		n += 2
		return told
	}
}

// least is the lesser of two naturals.
func least(a, b api.Nat) api.Nat {
	if order, _ := nat.Cmp(a, b); order > 0 {
		return b
	}
	return a
}
