package probe_test

import (
	"math"
	"math/big"
	"slices"
	"testing"

	"ulp/api"
	"ulp/dyad"
	"ulp/probe"
)

func TestSource(t *testing.T) {
	one, other, third := probe.Source(1), probe.Source(1), probe.Source(2)
	same := true
	for range 100 {
		w := one.Word()
		if w != other.Word() {
			t.Fatal("one start, other words")
		}
		same = same && w == third.Word()
		if n := third.Below(7); n < 0 || n >= 7 {
			t.Error("Below(7):", n)
		}
		exp := third.Below(2046) - 1022
		if x := third.Float(exp); math.Ilogb(x) != exp {
			t.Errorf("Float(%d) = %x", exp, x)
		}
	}
	if same {
		t.Error("two starts, the same words")
	}
	if a, b := one.Natural(9), other.Natural(9); len(a) != 9 || !slices.Equal(a, b) {
		t.Error("Natural:", a, b)
	}
}

func TestPatterns(t *testing.T) {
	if a := probe.Filled(3, 7); !slices.Equal(a, api.Nat{7, 7, 7}) {
		t.Error("Filled:", a)
	}
	for _, n := range []int{0, 1, 63, 64, 65, 200} {
		sum := new(big.Int)
		for _, w := range slices.Backward(probe.Power2(n)) {
			sum.Lsh(sum, 64).Or(sum, new(big.Int).SetUint64(w))
		}
		if sum.Cmp(new(big.Int).Lsh(big.NewInt(1), uint(n))) != 0 {
			t.Errorf("Power2(%d) = %x", n, sum)
		}
	}
}

func TestNumbers(t *testing.T) {
	for _, d := range slices.Concat(probe.Numbers(), probe.GreatNumbers()) {
		if why := dyad.Check(d); why != api.OK {
			t.Errorf("%d words, exponent %d: error %d", len(d.Abs), d.Exp, why)
		}
	}
	for _, d := range probe.WrongNumbers() {
		if why := dyad.Check(d); why != api.ErrRange {
			t.Errorf("%d words, exponent %d: error %d, want ErrRange", len(d.Abs), d.Exp, why)
		}
	}
	for _, x := range probe.Floats() {
		if _, why := dyad.From(x); why != api.OK {
			t.Errorf("%x is not finite", x)
		}
	}
}

func TestApart(t *testing.T) {
	long := api.Nat{1, 2, 3, 4, 5}
	for i, c := range []struct {
		answers, arguments []api.Nat
		want               bool
	}{
		{nil, nil, true},
		{[]api.Nat{nil, {}, {1}}, []api.Nat{nil, {1}}, true},
		{[]api.Nat{long, long}, nil, false},
		{[]api.Nat{long[:2]}, []api.Nat{long[4:]}, false}, // by its room
		{[]api.Nat{long[:2:2]}, []api.Nat{long[2:]}, true},
		{[]api.Nat{{7}, long[1:2:2]}, []api.Nat{{7}, long}, false},
		{[]api.Nat{{7}}, []api.Nat{long, long}, true}, // arguments may share
	} {
		if got := probe.Apart(c.answers, c.arguments...); got != c.want {
			t.Errorf("case %d: %v", i, got)
		}
		if !slices.Equal(long, api.Nat{1, 2, 3, 4, 5}) {
			t.Errorf("case %d: a list is left changed: %v", i, long)
		}
	}
}
