// Package flags: sets of exceptions, and an environment that keeps them: see ../../shared/DOC.md and doc/02-flags.md.
package flags

import (
	"strings"

	"ulp/api"
)

// names of the flags, in the order of their bits.
var names = [...]string{"invalid", "divbyzero", "overflow", "underflow", "inexact"}

// emptyText is the text of the set without flags.
const emptyText = "none"

// Right tells whether bits are flags.
func Right(f api.Flags) bool { return Has(api.AllFlags, f) }

// Has tells whether all bits of g are among those of f.
func Has(f, g api.Flags) bool { return Take(g, f) == 0 }

// Join has the bits of f or g.
func Join(f, g api.Flags) api.Flags { return together(set(f).join, g) }

// Meet has the bits that are in both.
func Meet(f, g api.Flags) api.Flags { return together(set(f).meet, g) }

// Take has the bits of f that are not in g.
func Take(f, g api.Flags) api.Flags { return together(set(f).take, g) }

// set has as methods the ways in which another set is put to it, so that a way can be handed on with the set it is of.
type set api.Flags

func (f set) join(g set) set { return f | g }
func (f set) meet(g set) set { return f & g }
func (f set) take(g set) set { return f &^ g }

func together(way func(set) set, g api.Flags) api.Flags { return api.Flags(way(set(g))) }

// Each are the right flags of f one by one, rising.
func Each(f api.Flags) []api.Flags {
	var list []api.Flags
	for i := range len(names) {
		if g := api.Flags(1) << i; Has(f, g) {
			list = append(list, g)
		}
	}
	return list
}

// Show writes a set; of bits that are no flags, nothing.
func Show(f api.Flags) string {
	if !Right(f) {
		return ""
	}
	if f == 0 {
		return emptyText
	}
	var words []string
	for i, name := range names {
		if Has(f, 1<<i) {
			words = append(words, name)
		}
	}
	return strings.Join(words, " ")
}

// Parse reads what Show writes. There are few sets: that a text is held against all of theirs keeps the two from parting.
func Parse(s string) (api.Flags, api.Errno) {
	for f := range api.AllFlags + 1 {
		if Show(f) == s {
			return f, api.OK
		}
	}
	return 0, api.ErrFlags
}

// Math is what C's errno tells of flags.
func Math(f api.Flags) api.MathErr {
	switch {
	case Has(f, api.Invalid):
		return api.MathDomain
	case Meet(f, api.DivByZero|api.Overflow|api.Underflow) != 0:
		return api.MathRange
	default:
		return api.MathNone
	}
}
