package common

import (
	"iter"
	"slices"
)

// following returns the order that follows one, compared index by index, and whether there is one.
func following(order []int) ([]int, bool) {
	next := make([]int, len(order))
	copy(next, order)
	last := len(next) - 1
	i := last - 1
	for i >= 0 && next[i] > next[i+1] {
		i--
	}
	if i < 0 {
		return nil, false
	}
	j := last
	for next[j] < next[i] {
		j--
	}
	next[i], next[j] = next[j], next[i]
	slices.Reverse(next[i+1:])
	return next, true
}

// Orders visits all orders of n elements as new lists of their indices, compared index by index.
func Orders(n int) iter.Seq[[]int] {
	return func(yield func([]int) bool) {
		order, is := make([]int, n), true
		for i := range n {
			order[i] = i
		}
		for is && yield(order) {
			order, is = following(order)
		}
	}
}
