package common

import "glideslope/api"

// Distinct returns a check of the names of a list, to be called with one after the other: it returns ErrName for a string that is not a name, ErrTwice for one that it was called with before, or OK.
func Distinct(isName func(s string) bool) func(name string) api.Errno {
	once := Once[string]()
	return func(name string) api.Errno {
		return First(Failed(!isName(name), api.ErrName), once(name))
	}
}

// Indices returns the index of each element of a list by its name. No two of them have the same one.
func Indices[T any](l []T, name func(T) string) map[string]int {
	indices := map[string]int{}
	for i, x := range l {
		indices[name(x)] = i
	}
	return indices
}
