package common

import (
	"cmp"
	"slices"
)

// Set is strictly ascending indices.
type Set []int

// With returns a set with one index more, which is above all others.
func (s Set) With(i int) Set {
	out := make(Set, len(s)+1)
	last := copy(out, s)
	out[last] = i
	return out
}

// Compare compares sets: the one with fewer indices is the first one, of several the first one compared index by index.
func (s Set) Compare(o Set) int {
	return cmp.Or(cmp.Compare(len(s), len(o)), slices.Compare(s, o))
}
