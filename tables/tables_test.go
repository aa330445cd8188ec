package tables_test

import (
	"math"
	"math/big"
	"reflect"
	"slices"
	"testing"

	"ulp/api"
	"ulp/dyad"
	"ulp/ival"
	"ulp/probe"
	"ulp/tables"
)

const most = 1 << api.MaxSteps

var (
	kinds  = []api.TableKind{api.TableExp2, api.TableLog, api.TableInverse, api.TableAtan, api.TableSinpi}
	places = []int{8, 9, 24, 53, 64, 65, 113, api.MaxPlaces - 1, api.MaxPlaces}

	wrongSteps  = []int{-1, api.MaxSteps + 1, 63, 64, math.MinInt, math.MaxInt}
	wrongPlaces = []int{7, api.MaxPlaces + 1, 0, -1, math.MinInt, math.MaxInt}
)

// entryOf is what must be answered.
func entryOf(t *testing.T, k api.TableKind, n, i, q int) (api.Dyad, api.Ival) {
	t.Helper()
	d, v, why := tables.Entry(k, n, i, q)
	if why != api.OK {
		t.Fatalf("Entry(%d, %d, %d, %d): error %d", k, n, i, q, why)
	}
	return d, v
}

func allOf(t *testing.T, k api.TableKind, n, q int) []api.Dyad {
	t.Helper()
	l, why := tables.All(k, n, q)
	if why != api.OK || len(l) != 1<<n {
		t.Fatalf("All(%d, %d, %d) has %d entries, error %d", k, n, q, len(l), why)
	}
	return l
}

// refused: ErrRange, and nothing beside it.
func refused(t *testing.T, k api.TableKind, n, i, q int) {
	t.Helper()
	if d, v, why := tables.Entry(k, n, i, q); why != api.ErrRange || !reflect.DeepEqual(d, api.Dyad{}) || !reflect.DeepEqual(v, api.Ival{}) {
		t.Errorf("Entry(%d, %d, %d, %d) = %v, %v, error %d", k, n, i, q, d, v, why)
	}
}

func refusedAll(t *testing.T, k api.TableKind, n, q int) {
	t.Helper()
	if l, why := tables.All(k, n, q); why != api.ErrRange || len(l) != 0 {
		t.Errorf("All(%d, %d, %d) has %d entries, error %d", k, n, q, len(l), why)
	}
}

func refusedCheck(t *testing.T, k api.TableKind, n, q int, l []api.Dyad) {
	t.Helper()
	if at, why := tables.Check(k, n, q, l); why != api.ErrRange || at != 0 {
		t.Errorf("Check(%d, %d, %d) of %d numbers = %d, error %d", k, n, q, len(l), at, why)
	}
}

// isForm tells whether a number is right, and in its one form.
func isForm(d api.Dyad) bool {
	form, why := dyad.Canon(d)
	return why == api.OK && reflect.DeepEqual(form, d)
}

func size(d api.Dyad) int {
	n, _ := dyad.Size(d)
	return n
}

// checkEntry holds an entry, and what is missing of it, against the value.
func checkEntry(t *testing.T, k api.TableKind, n, i, q int) {
	t.Helper()
	d, v := entryOf(t, k, n, i, q)
	if !isForm(d) || size(d) > q {
		t.Errorf("Entry(%d, %d, %d, %d) = %v", k, n, i, q, d)
	}
	if i == 0 {
		first := map[api.TableKind]int64{api.TableExp2: 1, api.TableInverse: 1}[k]
		if !reflect.DeepEqual(d, dyad.Int(first)) || !reflect.DeepEqual(v, api.Ival{}) {
			t.Errorf("Entry(%d, %d, 0, %d) = %v, from %v to %v", k, n, q, d, v.Lo, v.Hi)
		}
		return
	}
	value := real(k, n, i)
	limit := fresh().Add(scaled(whole(1), -1), scaled(whole(1), -16))
	if off(d, value, q).Cmp(limit) > 0 {
		t.Errorf("Entry(%d, %d, %d, %d) = %v lies off by %g units", k, n, i, q, d, off(d, value, q))
	}
	rest := difference(value, float(d))
	if !isForm(v.Lo) || !isForm(v.Hi) || !ival.Narrow(v, 16) || float(v.Lo).Cmp(rest) > 0 || float(v.Hi).Cmp(rest) < 0 {
		t.Errorf("Entry(%d, %d, %d, %d): %g is missing, but is told from %g to %g", k, n, i, q, rest, float(v.Lo), float(v.Hi))
	}
}

// P26.1: whole tables of few entries, and some entries of great ones, with few bits and many.
func TestEntry(t *testing.T) {
	s := probe.Source(1)
	for _, k := range kinds {
		for n := range api.MaxSteps + 1 {
			list := []int{0, 1<<n - 1, 1 << n / 2, s.Below(1 << n), s.Below(1 << n)}
			for i := range min(1<<n, 8) {
				list = append(list, i)
			}
			slices.Sort(list)
			for _, i := range slices.Compact(list) {
				for _, q := range places {
					checkEntry(t, k, n, i, q)
				}
			}
		}
	}
}

// P26.1: each kind at all numbers of bits.
func TestAllPlaces(t *testing.T) {
	for _, k := range kinds {
		for q := 8; q <= api.MaxPlaces; q++ {
			checkEntry(t, k, 10, 1+q*3%1023, q)
			checkEntry(t, k, 10, 1, q)
		}
	}
}

// P26.1: there is no such kind, n, i or q.
func TestRefused(t *testing.T) {
	for n := range 256 {
		k := api.TableKind(n)
		if slices.Contains(kinds, k) {
			continue
		}
		for _, q := range []int{7, 8, 53} {
			refused(t, k, 0, 0, q)
			refused(t, k, 3, 5, q)
			refusedAll(t, k, 3, q)
			refusedCheck(t, k, 0, q, make([]api.Dyad, 1))
			refusedCheck(t, k, 0, q, nil)
		}
	}
	for _, k := range kinds {
		for _, n := range wrongSteps {
			refused(t, k, n, 0, 53)
			refused(t, k, n, -1, 53)
			refusedAll(t, k, n, 53)
			refusedCheck(t, k, n, 53, nil)
			refusedCheck(t, k, n, 53, make([]api.Dyad, 1))
			refusedCheck(t, k, n, 53, make([]api.Dyad, 2*most))
		}
		for _, q := range wrongPlaces {
			refused(t, k, 3, 1, q)
			refusedAll(t, k, 3, q)
			refusedCheck(t, k, 3, q, make([]api.Dyad, 8))
		}
		for n := range api.MaxSteps + 1 {
			for _, i := range []int{-1, 1 << n, 1<<n + 1, math.MinInt, math.MaxInt} {
				refused(t, k, n, i, 53)
			}
			entryOf(t, k, n, 0, 8)
			entryOf(t, k, n, 1<<n-1, api.MaxPlaces)
		}
	}
}

// P26.1: All is what Entry answers of all i.
func TestAll(t *testing.T) {
	for _, k := range kinds {
		for _, c := range [][2]int{{0, 8}, {0, 256}, {1, 8}, {2, 53}, {3, 40}, {5, 113}, {6, 8}, {10, 24}} {
			n, q := c[0], c[1]
			for i, d := range allOf(t, k, n, q) {
				if e, _ := entryOf(t, k, n, i, q); !reflect.DeepEqual(d, e) {
					t.Errorf("All(%d, %d, %d) has %v at %d, but the entry is %v", k, n, q, d, i, e)
				}
			}
		}
	}
}

// checked: Check finds that.
func checked(t *testing.T, k api.TableKind, n, q int, l []api.Dyad, want int) {
	t.Helper()
	if at, why := tables.Check(k, n, q, l); at != want || why != api.OK {
		t.Errorf("Check(%d, %d, %d) = %d, error %d, want %d", k, n, q, at, why, want)
	}
}

// with is a table with one number in another's place.
func with(l []api.Dyad, i int, d api.Dyad) []api.Dyad {
	l = slices.Clone(l)
	l[i] = d
	return l
}

// sum is that of two numbers.
func sum(a, b api.Dyad) api.Dyad {
	a, _ = dyad.Add(a, b)
	return a
}

// P26.2, P26.6: nothing is found in whole tables.
func TestCheckWhole(t *testing.T) {
	for _, k := range kinds {
		for n := range api.MaxSteps + 1 {
			for _, q := range []int{8, 53, api.MaxPlaces} {
				checked(t, k, n, q, allOf(t, k, n, q), 1<<n)
			}
		}
	}
}

// P26.2: one number changed, by units of the last place, by more bits, by much; at the first, a middle and the last place.
func TestCheckChanged(t *testing.T) {
	for _, k := range kinds {
		for _, c := range [][2]int{{0, 8}, {1, 24}, {3, 40}, {4, 8}, {6, 53}, {5, 256}} {
			n, q := c[0], c[1]
			l := allOf(t, k, n, q)
			for _, i := range []int{0, 1 << n / 2, 1<<n - 1} {
				d := l[i]
				last := api.Dyad{Abs: api.Nat{1}, Exp: -q}
				if top, why := dyad.Top(d); why == api.OK {
					last.Exp += top + 1
				}
				less := last
				less.Neg = true
				half := api.Dyad{Abs: api.Nat{1}, Exp: last.Exp - 1}
				little := api.Dyad{Abs: api.Nat{1}, Exp: last.Exp - 40} // near enough, but of too many bits
				for _, change := range []api.Dyad{last, less, half, little, dyad.Int(1), dyad.Int(-1), {Abs: api.Nat{1}, Exp: 20000}} {
					checkChanged(t, k, n, i, q, l, sum(d, change))
				}
				opposite, _ := dyad.Neg(d)
				checkChanged(t, k, n, i, q, l, opposite)
				checkChanged(t, k, n, i, q, l, api.Dyad{})
				checkChanged(t, k, n, i, q, l, api.Dyad{Abs: api.Nat{1}, Exp: -api.MaxExp})
			}
		}
	}
}

// checkChanged holds Check's answer of a table with another number at a place against how far that lies off.
func checkChanged(t *testing.T, k api.TableKind, n, i, q int, l []api.Dyad, d api.Dyad) {
	t.Helper()
	want := i
	if isNear(k, n, i, q, d) {
		want = 1 << n
	}
	checked(t, k, n, q, with(l, i, d), want)
}

// isNear tells whether a number is near; none of those that are asked lies just at the edge.
func isNear(k api.TableKind, n, i, q int, d api.Dyad) bool {
	if size(d) > q {
		return false
	}
	if i == 0 {
		first := map[api.TableKind]int{api.TableExp2: 1, api.TableInverse: 1}[k]
		value := whole(first)
		if first == 0 {
			return float(d).Sign() == 0
		}
		return off(d, value, q).Cmp(scaled(whole(1), -1)) <= 0
	}
	return off(d, real(k, n, i), q).Cmp(big.NewFloat(0.5001)) <= 0
}

// P26.2: the neighbours of q bits on either side of a value: either is near that lies off by half a unit and 2^-16 of it at most.
func TestCheckEdge(t *testing.T) {
	const n = 6
	for _, k := range kinds {
		for q := 8; q <= 40; q += 4 {
			l := allOf(t, k, n, q)
			for i := 1; i < 1<<n; i += 5 {
				value := real(k, n, i)
				for _, up := range []bool{false, true} {
					d, _ := dyad.Cut(dyadOf(value), q, up)
					switch far := off(d, value, q); {
					case far.Cmp(big.NewFloat(0.5+0x1p-16)) <= 0:
						checked(t, k, n, q, with(l, i, d), 1<<n)
					case far.Cmp(big.NewFloat((0.5+0x1p-16)*(1+0x1p-12))) > 0:
						checked(t, k, n, q, with(l, i, d), i)
					}
				}
			}
		}
	}
}

// dyadOf is a number above 0 as the program reckons with it, cut to some hundred bits.
func dyadOf(x *big.Float) api.Dyad {
	const bits = 400
	n, _ := scaled(x, bits).Int(nil)
	var abs api.Nat
	for rest := n; rest.Sign() > 0; rest = new(big.Int).Rsh(rest, 64) {
		abs = append(abs, new(big.Int).And(rest, new(big.Int).SetUint64(math.MaxUint64)).Uint64())
	}
	return api.Dyad{Abs: abs, Exp: -bits}
}

// P26.2: numbers that are not right, numbers at the limits, numbers in other forms, the first of several.
func TestCheckWrong(t *testing.T) {
	for _, k := range kinds {
		l := allOf(t, k, 3, 53)
		for i := range l {
			for _, d := range probe.WrongNumbers() {
				checked(t, k, 3, 53, with(l, i, d), i)
			}
			for _, d := range probe.GreatNumbers() {
				checkChanged(t, k, 3, i, 53, l, d)
			}
			checked(t, k, 3, 53, with(with(l, i, probe.WrongNumbers()[0]), 7, dyad.Int(9)), i)
			checked(t, k, 3, 53, with(with(l, i, dyad.Int(9)), 7, probe.WrongNumbers()[2]), i)
			d := l[i]
			for _, form := range []api.Dyad{{Neg: d.Neg, Abs: append(slices.Clone(d.Abs), 0, 0), Exp: d.Exp}, {Neg: d.Neg, Abs: append(api.Nat{0, 0}, d.Abs...), Exp: d.Exp - 128}} {
				checked(t, k, 3, 53, with(l, i, form), 8)
			}
		}
		for _, short := range [][]api.Dyad{nil, {}, l[:1], l[:7], append(slices.Clone(l), dyad.Int(1)), append(slices.Clone(l), l...)} {
			refusedCheck(t, k, 3, 53, short)
		}
	}
	checked(t, api.TableLog, 0, 8, []api.Dyad{{Neg: true, Abs: api.Nat{0, 0}, Exp: 77}}, 1)
	checked(t, api.TableLog, 0, 8, []api.Dyad{{Abs: api.Nat{1}, Exp: -api.MaxExp}}, 0)
	refusedCheck(t, api.TableLog, 0, 8, nil)
}

// words are the first of 2 / pi, as the tests reckon them.
func words(n int) []uint64 {
	x, _ := scaled(quotient(whole(2), pi()), 64*n).Int(nil)
	var list []uint64
	for range n {
		list = append(list, new(big.Int).And(x, new(big.Int).SetUint64(math.MaxUint64)).Uint64())
		x.Rsh(x, 64)
	}
	slices.Reverse(list)
	return list
}

// P26.4, P26.5, P26.10
func TestTurns(t *testing.T) {
	all := words(api.MaxTurns)
	for n := 1; n <= api.MaxTurns; n++ {
		l, why := tables.Turns(n)
		if why != api.OK || !slices.Equal(l, all[:n]) {
			t.Errorf("Turns(%d) = %x, error %d, want %x", n, l, why, all[:n])
		}
		m, _ := tables.Turns(n)
		if !probe.Apart([]api.Nat{l, m}) {
			t.Errorf("answers of Turns(%d) share memory", n)
		}
	}
	for _, n := range []int{0, -1, api.MaxTurns + 1, 64, math.MinInt, math.MaxInt} {
		if l, why := tables.Turns(n); why != api.ErrRange || len(l) != 0 {
			t.Errorf("Turns(%d) = %x, error %d", n, l, why)
		}
	}
}

// The chapter's examples.
func TestExamples(t *testing.T) {
	d, v := entryOf(t, api.TableExp2, 1, 1, 8)
	if !reflect.DeepEqual(d, api.Dyad{Abs: api.Nat{181}, Exp: -7}) {
		t.Error("the root of 2:", d)
	}
	if lo, _ := float(v.Lo).Float64(); math.Abs(lo-0.00015) > 0.00001 {
		t.Error("of the root of 2 is missing", lo)
	}
	d, v = entryOf(t, api.TableLog, 3, 0, 53)
	if !reflect.DeepEqual(d, api.Dyad{}) || !reflect.DeepEqual(v, api.Ival{}) {
		t.Error("the logarithm of 1:", d, v)
	}
	if l, why := tables.Turns(1); why != api.OK || !slices.Equal(l, []uint64{0xa2f9836e4e441529}) {
		t.Errorf("Turns(1) = %x, error %d", l, why)
	}
	if s, why := tables.Print([]api.Dyad{{Abs: api.Nat{3}, Exp: -1}}); why != api.OK || s != "0x3p-1\n" {
		t.Errorf("Print = %q, error %d", s, why)
	}
}
