package ival_test

import (
	"encoding/binary"
	"math/big"
	"testing"

	"ulp/api"
)

// real is a real number as the tests reckon with it: a quotient times 2^exp, or the root of that. The divisor is above 0.
type real struct {
	num, den *big.Int
	exp      int
	root     bool
}

func whole(n *big.Int, exp int) real { return real{num: n, den: big.NewInt(1), exp: exp} }

func realOf(d api.Dyad) real {
	bytes := make([]byte, 8*len(d.Abs))
	for i, w := range d.Abs {
		binary.BigEndian.PutUint64(bytes[len(bytes)-8*i-8:], w)
	}
	n := new(big.Int).SetBytes(bytes)
	if d.Neg {
		n.Neg(n)
	}
	return whole(n, d.Exp)
}

func (x real) negated() real {
	x.num = new(big.Int).Neg(x.num)
	return x
}

// plus is a sum of whole numbers times powers of 2.
func (x real) plus(y real) real {
	if x.exp < y.exp {
		return y.plus(x)
	}
	level := new(big.Int).Lsh(x.num, uint(x.exp-y.exp))
	return whole(level.Add(level, y.num), y.exp)
}

func (x real) times(y real) real {
	return real{num: new(big.Int).Mul(x.num, y.num), den: new(big.Int).Mul(x.den, y.den), exp: x.exp + y.exp}
}

func (x real) over(y real) real {
	q := real{num: new(big.Int).Mul(x.num, y.den), den: new(big.Int).Mul(x.den, y.num), exp: x.exp - y.exp}
	if q.den.Sign() < 0 {
		q.num.Neg(q.num)
		q.den.Neg(q.den)
	}
	return q
}

func (x real) rooted() real {
	x.root = true
	return x
}

// against is -1, 0, 1; of numbers that are no roots.
func (x real) against(y real) int {
	return whole(new(big.Int).Mul(x.num, y.den), x.exp).plus(whole(new(big.Int).Mul(y.num, x.den), y.exp).negated()).num.Sign()
}

// floorAt is how many times 2^e goes into the number, rounded down, and whether nothing is left.
func (x real) floorAt(e int) (n *big.Int, exact bool) {
	num, den, shift := new(big.Int).Set(x.num), new(big.Int).Set(x.den), x.exp-e
	if x.root {
		shift -= e
	}
	if shift >= 0 {
		num.Lsh(num, uint(shift))
	} else {
		den.Lsh(den, uint(-shift))
	}
	n, rest := num.DivMod(num, den, new(big.Int))
	exact = rest.Sign() == 0
	if x.root {
		square := n
		n = new(big.Int).Sqrt(square)
		exact = exact && new(big.Int).Mul(n, n).Cmp(square) == 0
	}
	return n, exact
}

// top is the exponent of the first bit of a number above 0.
func (x real) top() int {
	t := x.num.BitLen() - x.den.BitLen() + x.exp
	if x.root {
		t /= 2
	}
	for {
		n, _ := x.floorAt(t)
		switch {
		case n.Sign() == 0:
			t--
		case n.BitLen() > 1:
			t++
		default:
			return t
		}
	}
}

// cut is the next number of at most p bits, in its one form, down or up.
func (x real) cut(p int, up bool) real {
	switch x.num.Sign() {
	case 0:
		return whole(new(big.Int), 0)
	case -1:
		return x.negated().cut(p, !up).negated()
	}
	e := x.top() - p + 1
	n, exact := x.floorAt(e)
	if up && !exact {
		n.Add(n, big.NewInt(1))
	}
	return whole(n, e).odd()
}

// odd is a whole number times a power of 2 in its one form.
func (x real) odd() real {
	if x.num.Sign() == 0 {
		return whole(new(big.Int), 0)
	}
	low := x.num.TrailingZeroBits()
	return whole(new(big.Int).Rsh(x.num, low), x.exp+int(low))
}

// hasRoom tells whether a number in its one form is right.
func (x real) hasRoom() bool {
	return x.num.BitLen() <= 64*api.MaxLimbs && x.exp >= -api.MaxExp && x.exp <= api.MaxExp
}

// span is what an answer has to be: between two numbers in their one form.
type span struct{ lo, hi real }

// outmost is the span to p bits of some numbers.
func outmost(p int, list ...real) span {
	s := span{list[0].cut(p, false), list[0].cut(p, true)}
	for _, x := range list[1:] {
		if lo := x.cut(p, false); lo.against(s.lo) < 0 {
			s.lo = lo
		}
		if hi := x.cut(p, true); hi.against(s.hi) > 0 {
			s.hi = hi
		}
	}
	return s
}

// isForm tells whether a number is the one form of another one.
func isForm(d api.Dyad, want real) bool {
	normal := len(d.Abs) == 0 || d.Abs[len(d.Abs)-1] != 0
	return normal && d.Exp == want.exp && d.Neg == (want.num.Sign() < 0) && realOf(d).num.Cmp(want.num) == 0
}

// expect holds an answer against the span, or against the error, ErrMany if the span has no room.
func expect(t *testing.T, what string, got api.Ival, why api.Errno, want span, of ...api.Ival) {
	t.Helper()
	error := api.OK
	if !want.lo.hasRoom() || !want.hi.hasRoom() {
		error = api.ErrMany
	}
	if error != api.OK || why != error {
		expectError(t, what, got, why, error, of...)
		return
	}
	if !isForm(got.Lo, want.lo) || !isForm(got.Hi, want.hi) {
		t.Errorf("%s of %s = %s", what, show(of...), show(got))
	}
}

// expectError: that error, and nothing else.
func expectError(t *testing.T, what string, got api.Ival, why, want api.Errno, of ...api.Ival) {
	t.Helper()
	if why != want || !isZero(got.Lo) || !isZero(got.Hi) {
		t.Errorf("%s of %s = %s, error %d, want %d", what, show(of...), show(got), why, want)
	}
}

func isZero(d api.Dyad) bool { return !d.Neg && d.Abs == nil && d.Exp == 0 }

func show(list ...api.Ival) string {
	text := ""
	for _, v := range list {
		text += "[" + showEnd(v.Lo) + ", " + showEnd(v.Hi) + "]"
	}
	return text
}

func showEnd(d api.Dyad) string {
	digits := realOf(d).num.Text(16)
	if len(digits) > 60 {
		digits = digits[:30] + ".." + digits[len(digits)-28:]
	}
	return digits + " 2^" + big.NewInt(int64(d.Exp)).String()
}
