package tables

import (
	"iter"

	"ulp/api"
	"ulp/dyad"
	"ulp/ival"
	"ulp/nat"
)

const (
	leastPlaces = 8

	// spareBits are those to which values are enclosed behind an entry's. No value but a whole one is nearer than 2^-24 of its last place to a number of so few bits, a power of 2 among these: so they tell the value's top, and what is missing of the entry to far more than 16 bits.
	spareBits = 64

	// An entry may lie off by half of its last place, and 2^-slackBits of one.
	slackBits = 16
)

// table is of a kind, has 2^n entries, of q bits.
type table struct {
	kind
	n, q int
}

// tableOf is the table of these, if there is one.
func tableOf(k api.TableKind, n, q int) (table, bool) {
	if k >= api.TableCount || n < 0 || n > api.MaxSteps || q < leastPlaces || q > api.MaxPlaces {
		return table{}, false
	}
	of := kinds()[k]
	return table{of, n, q}, of.value != nil
}

func (t table) size() int { return 1 << t.n }

// valueAt is an enclosure of the i-th value.
func (t table) valueAt(i int) (api.Ival, api.Errno) {
	if i == 0 {
		return ival.Point(dyad.Int(t.first))
	}
	return t.value(step{t.n, i}, t.q+spareBits)
}

// values yields those of all steps, one by one.
func (t table) values() iter.Seq2[api.Ival, api.Errno] {
	return func(yield func(api.Ival, api.Errno) bool) {
		for i := range t.size() {
			if !yield(t.valueAt(i)) {
				return
			}
		}
	}
}

// entries yields those of all values.
func (t table) entries() iter.Seq2[api.Dyad, api.Errno] {
	return func(yield func(api.Dyad, api.Errno) bool) {
		for v, why := range t.values() {
			if !yield(t.entry(v, why)) {
				return
			}
		}
	}
}

// entry is the number of q bits next to a value; of the value's two ends, which lie so near to each other that either would do, the lower one is taken.
func (t table) entry(v api.Ival, why api.Errno) (api.Dyad, api.Errno) {
	if why != api.OK {
		return api.Dyad{}, why
	}
	below, why := dyad.Cut(v.Lo, t.q, false)
	if why != api.OK {
		return api.Dyad{}, why
	}
	above, why := dyad.Cut(v.Lo, t.q, true)
	if why != api.OK {
		return api.Dyad{}, why
	}
	if isNearer(above, below, v.Lo) {
		return above, api.OK
	}
	return below, api.OK
}

// isNearer tells whether d, from below to above, lies nearer to the latter.
func isNearer(above, below, d api.Dyad) bool {
	sum, _ := dyad.Add(below, above)
	twice, _ := dyad.Add(d, d)
	order, _ := dyad.Cmp(twice, sum)
	return order > 0
}

// isNear tells whether a number is right, has at most q bits, and lies as near to a value as an entry must.
func (t table) isNear(d api.Dyad, v api.Ival) bool {
	size, _ := dyad.Size(d) // (0 has none; what is not right lies in no interval)
	return size <= t.q && ival.Has(t.around(v), d)
}

// around is a value with as much on either side as an entry may be off; 0 has nothing round it.
func (t table) around(v api.Ival) api.Ival {
	top, why := dyad.Top(v.Lo)
	if why != api.OK {
		return v
	}
	off := api.Dyad{Abs: nat.Of(1<<(slackBits-1) + 1), Exp: top + 1 - t.q - slackBits}
	v.Lo, _ = dyad.Sub(v.Lo, off)
	v.Hi, _ = dyad.Add(v.Hi, off)
	return v
}
