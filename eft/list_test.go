package eft_test

import (
	"math"
	"math/big"
	"slices"
	"testing"

	"ulp/eft"
	"ulp/probe"
)

// lists are moderate ones of up to n floats, n among their lengths: with floats 0 in them, such as cancel out, such as lie far apart, and such as all lie at the edges.
func lists(n int) [][]float64 {
	minusZero := math.Copysign(0, -1)
	list := [][]float64{
		nil, {}, {0}, {minusZero}, {0, minusZero, 0}, {1}, {-1}, {0, 1, 0}, {1, -1}, {1, 2, -3}, {1, 0x1p100, -0x1p100}, {0x1p100, 1, -0x1p100}, {0.1, 0.2, -0.3},
		{1, 0x1p-53}, {1 + 0x1p-52, 0x1p-53}, {1, 0x1p-54}, {0x1p400, 0x1p-400}, {0x1p-400, 0x1p400, -0x1p-400}, {0x1p400, 0x1p-400, -0x1p400}, {math.Nextafter(1, 2), -1, 0x1p-300},
		slices.Repeat([]float64{0x1p400}, n), slices.Repeat([]float64{-0x1p-400}, n), slices.Repeat([]float64{0}, n), slices.Repeat([]float64{0.1}, n),
		slices.Repeat([]float64{0x1.fffffffffffffp399, -0x1p-400}, n/2),
	}
	s := probe.Source(74)
	for range 150 {
		few := make([]float64, 1+s.Below(n))
		for i := range few {
			few[i] = drawn(&s)
			switch s.Below(8) {
			case 0:
				few[i] = 0
			case 1:
				few[i] = -few[s.Below(i+1)]
			case 2:
				few[i] = s.Float(3)
			}
		}
		list = append(list, few)
	}
	full := make([]float64, n)
	for i := range full {
		full[i] = s.Float(395 - 800*i/n)
	}
	back := slices.Clone(full)
	slices.Reverse(back)
	return append(list, full, back)
}

func factors() []float64 {
	return []float64{0, math.Copysign(0, -1), 1, -1, 3, 0.1, -1.0 / 3, 0x1p-400, -0x1p400, 0x1.fffffffffffffp399, 0x1.5555555555555p-200}
}

// 7.2, 7.6
func TestSum(t *testing.T) {
	for _, l := range lists(64) {
		got := eft.Sum(l)
		if !slices.Equal(got, sum(l)) {
			t.Errorf("Sum(%x) = %x, want %x", l, got, sum(l))
		}
		if total(got...).Cmp(total(l...)) != 0 {
			t.Errorf("Sum(%x) = %x is not the sum", l, got)
		}
	}
}

// 7.2, 7.6
func TestGrow(t *testing.T) {
	for _, l := range lists(64) {
		for _, b := range factors() {
			got := eft.Grow(l, b)
			if !slices.Equal(got, grow(l, b)) {
				t.Errorf("Grow(%x, %x) = %x, want %x", l, b, got, grow(l, b))
			}
			if total(got...).Cmp(total(append(l, b)...)) != 0 {
				t.Errorf("Grow(%x, %x) = %x is not the sum", l, b, got)
			}
		}
	}
}

// 7.2, 7.6, 7.7
func TestScale(t *testing.T) {
	for _, l := range lists(32) {
		for _, b := range factors() {
			got := eft.Scale(l, b)
			if !slices.Equal(got, scale(l, b)) {
				t.Errorf("Scale(%x, %x) = %x, want %x", l, b, got, scale(l, b))
			}
			exact := new(big.Float).Mul(total(l...), exactly(b))
			if total(got...).Cmp(exact) != 0 || eft.Sign(got) != exact.Sign() {
				t.Errorf("Scale(%x, %x) = %x, sign %d", l, b, got, eft.Sign(got))
			}
		}
	}
}

// 7.3, 7.7
func TestSign(t *testing.T) {
	if eft.Sign(nil) != 0 || eft.Sign([]float64{}) != 0 {
		t.Error("Sign of no floats")
	}
	for _, l := range lists(64) {
		for _, more := range [][]float64{nil, {0x1p-400}, {-0x1p-400}} {
			all := slices.Concat(l, more)
			if len(all) > 64 {
				continue
			}
			if got, want := eft.Sign(eft.Sum(all)), total(all...).Sign(); got != want {
				t.Errorf("Sign of Sum(%x) = %d, want %d", all, got, want)
			}
		}
	}
}

// 7.2: neither answer has a float 0, so that Sign tells what it should.
func TestNoZeros(t *testing.T) {
	for _, l := range lists(32) {
		for _, got := range [][]float64{eft.Sum(l), eft.Grow(l, 0), eft.Scale(l, -3)} {
			if slices.Contains(got, 0) {
				t.Errorf("of %x comes %x", l, got)
			}
		}
	}
}

// calls are those that answer a list.
func calls() map[string]func([]float64) []float64 {
	return map[string]func([]float64) []float64{
		"Sum":           eft.Sum,
		"Scale":         func(l []float64) []float64 { return eft.Scale(l, 3) },
		"Scale by 1":    func(l []float64) []float64 { return eft.Scale(l, 1) },
		"Grow":          func(l []float64) []float64 { return eft.Grow(l, 0x1p-200) },
		"Grow by 0":     func(l []float64) []float64 { return eft.Grow(l, 0) },
		"Grow downward": func(l []float64) []float64 { return eft.Grow(l, -0x1p300) },
	}
}

// 7.4
func TestMemory(t *testing.T) {
	for name, call := range calls() {
		for _, l := range append(lists(32), []float64{1}, []float64{1, 0x1p-100}, []float64{0x1p-100, 1}) {
			room := append(slices.Clone(l), 7, 8, 9) // what an append to l would write over
			l := room[:len(l)]
			was := slices.Clone(room)
			first := call(l)
			kept := slices.Clone(first)
			if !slices.Equal(room, was) {
				t.Fatalf("%s changes %x", name, l)
			}
			second := call(l)
			scribble(second)
			if !slices.Equal(room, was) || !slices.Equal(first, kept) {
				t.Fatalf("%s of %x shares memory", name, l)
			}
			scribble(l)
			if !slices.Equal(first, kept) {
				t.Fatalf("%s keeps %x", name, l)
			}
		}
	}
}

// scribble writes over a list to the end of its room.
func scribble(l []float64) {
	l = l[:cap(l)]
	for i := range l {
		l[i] = -5
	}
}

// 7.4
func TestNoPanic(t *testing.T) {
	wild := wilds()
	for _, a := range wild {
		eft.Split(a)
		for _, b := range wild {
			eft.TwoSum(a, b)
			eft.FastTwoSum(a, b)
			eft.TwoProd(a, b)
			eft.Sign([]float64{a, b})
			for _, l := range [][]float64{nil, {b}, {1, b}, {b, 1}, {b, b}, wild} {
				eft.Sign(eft.Grow(l, a))
				eft.Sign(eft.Scale(l, a))
				eft.Sign(eft.Sum(append(l, a)))
			}
		}
	}
}

// 7.4: longer lists than are spoken of, up to such as must not take time with the square of their length.
func TestLongLists(t *testing.T) {
	for _, x := range append(wilds(), 0.1, 0x1p400) {
		for _, n := range []int{33, 65, 1 << 10, 1 << 18} {
			long := slices.Repeat([]float64{x}, n)
			for _, call := range calls() {
				eft.Sign(call(long))
			}
		}
	}
}

// Nothing is said of these, but nothing is lost, either: a float or two more than the limits leave sums exact.
func TestJustBeyond(t *testing.T) {
	for _, l := range lists(65) {
		if got := eft.Sum(l); total(got...).Cmp(total(l...)) != 0 {
			t.Errorf("Sum(%x) = %x", l, got)
		}
	}
	for _, l := range lists(33) {
		if got := eft.Scale(l, -3); total(got...).Cmp(new(big.Float).Mul(total(l...), exactly(-3))) != 0 {
			t.Errorf("Scale(%x, -3) = %x", l, got)
		}
	}
}
