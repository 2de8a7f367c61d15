// Package common has what all layers need: the choice of the first error, lists, sets, spans, intervals, ratios, complex integers, and lines of words.
package common

import "glideslope/api"

// First returns the first error that is not OK, or OK.
func First(l ...api.Errno) api.Errno {
	for _, e := range l {
		if e != api.OK {
			return e
		}
	}
	return api.OK
}

// Failed returns an error if something is wrong, or OK.
func Failed(wrong bool, e api.Errno) api.Errno {
	if wrong {
		return e
	}
	return api.OK
}

// Between returns ErrRange if a number is not from low to high, or OK.
func Between(n, low, high int) api.Errno {
	return Failed(n < low || n > high, api.ErrRange)
}

// CheckIndex returns ErrUnknown if a number is no index of so many elements, or OK.
func CheckIndex(i, elements int) api.Errno {
	return Failed(i < 0 || i >= elements, api.ErrUnknown)
}

// CheckList returns ErrMany if a list has more elements than permitted, or the error of the first element with one, or OK.
func CheckList[T any](l []T, most int, check func(T) api.Errno) api.Errno {
	if len(l) > most {
		return api.ErrMany
	}
	return First(Mapped(l, check)...)
}

// CheckSome returns ErrEmpty if a list has no elements, or the error of CheckList, or OK.
func CheckSome[T any](l []T, most int, check func(T) api.Errno) api.Errno {
	return First(Failed(len(l) == 0, api.ErrEmpty), CheckList(l, most, check))
}

// Once returns a check of the elements of a list, to be called with one after the other: it returns ErrTwice for one that it was called with before, or OK.
func Once[T comparable]() func(x T) api.Errno {
	taken := map[T]bool{}
	return func(x T) api.Errno {
		isTaken := taken[x]
		taken[x] = true
		return Failed(isTaken, api.ErrTwice)
	}
}

// Ascending returns a check of the numbers of a list, to be called with one after the other: it returns ErrOrder for one that is not above the one before it, or OK. Before the first one there is a number that it has to be above, too.
func Ascending(before int) func(n int) api.Errno {
	return func(n int) api.Errno {
		isAbove := n > before
		before = n
		return Failed(!isAbove, api.ErrOrder)
	}
}
