// Package probe has what the tests of several layers need: words without a pattern, naturals of a pattern, numbers at the edges, and a look whether lists share memory. No layer calls it.
package probe

import (
	"slices"

	"ulp/api"
)

// Source makes words without a pattern; from one start always the same ones.
type Source uint64

// Word is the next word.
func (s *Source) Word() uint64 {
	*s = *s*6364136223846793005 + 1442695040888963407
	return uint64(*s ^ *s>>29)
}

// Below is a number from 0 to below n.
func (s *Source) Below(n int) int { return int(s.Word() % uint64(n)) }

// Natural is one of n words. Many of these are at the edges of a word: there carries go wrong.
func (s *Source) Natural(n int) api.Nat {
	edges := [...]uint64{0, 1<<64 - 1, 1 << 63}
	a := make(api.Nat, n)
	for i := range a {
		a[i] = s.Word()
		if pick := s.Below(8); pick < len(edges) {
			a[i] = edges[pick]
		}
	}
	return a
}

// Filled is a natural of n times one word.
func Filled(n int, w uint64) api.Nat { return slices.Repeat(api.Nat{w}, n) }

// Power2 is 2^n, n not below 0, without a word 0 at its end.
func Power2(n int) api.Nat {
	a := make(api.Nat, n/64+1)
	a[n/64] = 1 << (n % 64)
	return a
}

// Apart tells whether no answer shares memory, to the end of its room, with another answer or with an argument: each one is changed, and the others are looked at. All are as they were when it has answered.
func Apart(answers []api.Nat, arguments ...api.Nat) bool {
	lists := slices.Concat(answers, arguments)
	apart := true
	for i := range answers {
		apart = apart && alone(lists, i)
	}
	return apart
}

// alone tells whether the list at a place shares memory with none of the others.
func alone(lists []api.Nat, place int) bool {
	list := whole(lists[place])
	was := slices.Clone(list)
	before := make([]api.Nat, len(lists))
	for i := range lists {
		before[i] = slices.Clone(whole(lists[i]))
	}
	for i := range list {
		list[i] = ^list[i]
	}
	apart := true
	for i := range lists {
		apart = apart && (i == place || slices.Equal(whole(lists[i]), before[i]))
	}
	copy(list, was)
	return apart
}

// whole is a list to the end of its room.
func whole(a api.Nat) api.Nat { return a[:cap(a)] }
