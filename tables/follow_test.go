package tables_test

import (
	"math"
	"math/big"
	"reflect"
	"slices"
	"testing"

	"ulp/api"
	"ulp/atancore"
	"ulp/dyad"
	"ulp/expfam"
	"ulp/ival"
	"ulp/logcore"
	"ulp/probe"
	"ulp/tables"
	"ulp/trigpi"
)

// enclosed is an enclosure of a value, by the layers below.
func enclosed(k api.TableKind, n, i, p int) api.Ival {
	part, more := api.Dyad{Abs: api.Nat{uint64(i)}, Exp: -n}, api.Dyad{Abs: api.Nat{uint64(1<<n + i)}, Exp: -n}
	var v api.Ival
	switch k {
	case api.TableExp2:
		v, _ = expfam.Power(2, part, p)
	case api.TableLog:
		v, _ = logcore.Log(more, p)
	case api.TableInverse:
		v, _ = ival.Div(api.Ival{Lo: dyad.Int(1), Hi: dyad.Int(1)}, api.Ival{Lo: more, Hi: more}, p)
	case api.TableAtan:
		v, _ = atancore.Atan(part, p)
	case api.TableSinpi:
		part.Exp--
		v, _, _ = trigpi.Both(part, p)
	}
	return v
}

// P26.6: an entry and what is missing of it, added, meet the value's enclosures.
func TestMissing(t *testing.T) {
	for _, k := range kinds {
		for _, n := range []int{0, 1, 3, 6} {
			for i := range 1 << n {
				for _, q := range []int{8, 53, 256} {
					d, rest := entryOf(t, k, n, i, q)
					all, _ := ival.Add(api.Ival{Lo: d, Hi: d}, rest, api.MaxWork)
					for _, p := range []int{8, 64, 300, 1500} {
						if v := enclosed(k, n, i, p); !ival.Meets(all, v) {
							t.Errorf("Entry(%d, %d, %d, %d) and what is missing do not meet the value, to %d bits from %v to %v", k, n, i, q, p, v.Lo, v.Hi)
						}
					}
				}
			}
		}
	}
}

// longestRun is how many bits in a row are equal, of the first ones of a number above 0.
func longestRun(x *big.Float, first int) int {
	n, _ := scaled(x, first-x.MantExp(nil)).Int(nil)
	longest, run := 0, 1
	for i := 1; i < first; i++ {
		if run++; n.Bit(i) != n.Bit(i-1) {
			run = 1
		}
		longest = max(longest, run)
	}
	return longest
}

// P26.1, P26.2: no value but a whole one is so near to a number of at most MaxPlaces bits that the bits to which it is enclosed would not tell the two apart.
func TestNoneIsNearer(t *testing.T) {
	const n = api.MaxSteps // coarser tables have some of these values
	for _, k := range kinds {
		for i := 1; i < 1<<n; i++ {
			if run := longestRun(float(enclosed(k, n, i, 400).Lo), api.MaxPlaces+64); run > 24 {
				t.Errorf("kind %d: the value %d has %d equal bits in a row", k, i, run)
			}
		}
	}
}

// apart is the amount by which two numbers differ.
func apart(a, b api.Dyad) api.Dyad {
	d, _ := dyad.Sub(a, b)
	d.Neg = false
	return d
}

func isAbove(a, b api.Dyad) bool {
	order, _ := dyad.Cmp(a, b)
	return order > 0
}

func power2(exp int) api.Dyad { return api.Dyad{Abs: api.Nat{1}, Exp: exp} }

// P26.7: a finer table has the same values.
func TestFiner(t *testing.T) {
	for _, k := range kinds {
		for n := range api.MaxSteps {
			for _, q := range []int{8, 53, 200} {
				if n > 6 && q != 53 {
					continue
				}
				l, finer := allOf(t, k, n, q), allOf(t, k, n+1, q)
				for i, d := range l {
					top, why := dyad.Top(d)
					if why != api.OK && !dyad.Zero(finer[2*i]) || why == api.OK && isAbove(apart(d, finer[2*i]), power2(top+2-q)) {
						t.Errorf("kind %d, n %d, q %d: entry %d is %v, in the finer table %v", k, n, q, i, d, finer[2*i])
					}
				}
			}
		}
	}
}

// P26.8: products that are nearly 1, nearly 2.
func TestProducts(t *testing.T) {
	for _, n := range []int{0, 1, 4, 7, 10} {
		for _, q := range []int{8, 24, 53, 256} {
			inverses, powers := allOf(t, api.TableInverse, n, q), allOf(t, api.TableExp2, n, q)
			for i := range 1 << n {
				one, _ := dyad.Mul(inverses[i], api.Dyad{Abs: api.Nat{uint64(1<<n + i)}, Exp: -n})
				if isAbove(apart(one, dyad.Int(1)), power2(3-q)) {
					t.Errorf("n %d, q %d: the inverse %d is %v", n, q, i, inverses[i])
				}
				if i == 0 {
					continue
				}
				two, _ := dyad.Mul(powers[i], powers[1<<n-i])
				if isAbove(apart(two, dyad.Int(2)), power2(3-q)) {
					t.Errorf("n %d, q %d: the powers %d and its other are %v, %v", n, q, i, powers[i], powers[1<<n-i])
				}
			}
		}
	}
}

// P26.9
func TestRising(t *testing.T) {
	for _, k := range kinds {
		for _, n := range []int{1, 3, 6, 10} {
			for _, q := range []int{8, 9, 12, 53, 256} {
				l := allOf(t, k, n, q)
				for i := range len(l) - 1 {
					low, high := l[i], l[i+1]
					if k == api.TableInverse {
						low, high = high, low
					}
					if isAbove(low, high) {
						t.Errorf("kind %d, n %d, q %d: the entries %d and %d", k, n, q, i, i+1)
					}
				}
			}
		}
	}
}

// lists are all lists of words of some numbers.
func lists(l ...api.Dyad) []api.Nat {
	var all []api.Nat
	for _, d := range l {
		all = append(all, d.Abs)
	}
	return all
}

// P26.5: answers are new memory, in all their lists.
func TestNewMemory(t *testing.T) {
	for _, k := range kinds {
		for i := range 8 {
			d, v := entryOf(t, k, 3, i, 100)
			e, w := entryOf(t, k, 3, i, 100)
			if !probe.Apart(lists(d, v.Lo, v.Hi, e, w.Lo, w.Hi)) {
				t.Errorf("answers of Entry(%d, 3, %d, 100) share memory", k, i)
			}
		}
		l, m := allOf(t, k, 4, 100), allOf(t, k, 4, 100)
		if !probe.Apart(lists(append(l, m...)...)) {
			t.Errorf("answers of All(%d, 4, 100) share memory", k)
		}
		l[3] = dyad.Int(77)
		if reflect.DeepEqual(l, allOf(t, k, 4, 100)) {
			t.Errorf("what All(%d, 4, 100) answered is kept", k)
		}
	}
	s := "0x3p-1\n0x3p-1\n0x0p0\n-0x10000000000000001p1\n"
	l, _, _ := tables.Parse(s)
	m, _, _ := tables.Parse(s)
	if !probe.Apart(lists(append(l, m...)...)) {
		t.Error("answers of Parse share memory")
	}
}

// P26.5: what is handed in is not changed, to the end of its room.
func TestUnchanged(t *testing.T) {
	l := append(allOf(t, api.TableSinpi, 3, 60), api.Dyad{Abs: api.Nat{12, 7, 0}, Exp: 3})
	l[2].Abs = append(l[2].Abs, 0, 0)
	l[3] = api.Dyad{Abs: append(make(api.Nat, 0, 8), 4, 8, 0), Exp: 5}
	var was []api.Dyad
	for _, d := range l {
		was = append(was, api.Dyad{Neg: d.Neg, Abs: slices.Clone(d.Abs[:cap(d.Abs)])[:len(d.Abs)], Exp: d.Exp})
	}
	same := func(what string) {
		t.Helper()
		for i := range l {
			full := cap(l[i].Abs)
			if !reflect.DeepEqual(l[i], was[i]) || !slices.Equal(l[i].Abs[:full], was[i].Abs[:full]) {
				t.Errorf("%s changed the number %d to %v", what, i, l[i])
			}
		}
	}
	tables.Check(api.TableSinpi, 3, 60, l[:8])
	same("Check")
	tables.Print(l)
	same("Print")
}

// P1: whatever is handed in, there is an answer, and always the same.
func TestAnything(t *testing.T) {
	s := probe.Source(26)
	numbers := slices.Concat(probe.Numbers(), probe.GreatNumbers(), probe.WrongNumbers())
	for range 3000 {
		k, n, i, q := api.TableKind(s.Below(8)), s.Below(14)-2, s.Below(40)-3, s.Below(280)-4
		d, v, why := tables.Entry(k, n, i, q)
		e, w, whyToo := tables.Entry(k, n, i, q)
		if why != whyToo || !reflect.DeepEqual(d, e) || !reflect.DeepEqual(v, w) || why != api.OK && (why != api.ErrRange || !reflect.DeepEqual(d, api.Dyad{}) || !reflect.DeepEqual(v, api.Ival{})) {
			t.Errorf("Entry(%d, %d, %d, %d) = %v, %v, error %d", k, n, i, q, d, v, why)
		}
		var l []api.Dyad
		for range s.Below(9) {
			l = append(l, numbers[s.Below(len(numbers))])
		}
		at, why := tables.Check(k, s.Below(4), q, l)
		if why != api.OK && at != 0 || at < 0 || at > len(l) {
			t.Errorf("Check of %d numbers = %d, error %d", len(l), at, why)
		}
		text, why := tables.Print(l)
		if why != api.OK && text != "" {
			t.Errorf("Print of %d numbers = %q, error %d", len(l), text, why)
		}
		junk := make([]byte, s.Below(12))
		for i := range junk {
			junk[i] = "0123abfp-x\n\xff"[s.Below(12)]
		}
		checkText(t, string(junk))
	}
	for _, n := range []int{math.MinInt, math.MaxInt, 1 << 40} {
		refused(t, api.TableExp2, n, n, n)
		refusedAll(t, api.TableExp2, n, n)
	}
}
