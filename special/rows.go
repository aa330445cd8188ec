package special

import (
	"slices"

	"ulp/api"
)

// rows are those of a function.
type rows interface {
	inOrder() []line // of those that hold the first one is the answer
}

// ofOne are the rows of a function of one argument.
type ofOne struct{ rows func() []line }

// ofTwo are those of a function of two; some of them stand ahead of what is no number.
type ofTwo struct{ ahead, rows func() []line }

func (f ofOne) inOrder() []line { return withNaN(nil, f.rows()) }

func (f ofTwo) inOrder() []line { return withNaN(f.ahead(), f.rows()) }

// withNaN are a function's lines and those of arguments that are no numbers: of signalling ones ahead of all, of quiet ones between.
func withNaN(ahead, behind []line) []line {
	return slices.Concat([]line{{either(signalling), invalid}}, ahead, []line{{either(quiet), noNumber}}, behind)
}

// rowsOf are those of a function; nil of what is none.
func rowsOf(f api.Func) rows {
	if f >= api.FuncCount {
		return nil
	}
	return table()[f]
}

func areOfTwo(r rows) bool {
	_, two := r.(ofTwo)
	return two
}

// argumentsOf are those at which rows are looked up: of a function of one y is not handed on.
func argumentsOf(r rows, x, y uint64) arguments {
	if !areOfTwo(r) {
		y = x
	}
	return arguments{x, y}
}

// rowAt is what the first line that holds answers.
func rowAt(r rows, a arguments) row {
	for _, l := range r.inOrder() {
		if l.holds(a) {
			return l.answer(a)
		}
	}
	return row{}
}
