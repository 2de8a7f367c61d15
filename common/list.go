package common

import "glideslope/api"

// Mapped returns what a function makes of each element of a list.
func Mapped[A, B any](l []A, f func(A) B) []B {
	out := make([]B, len(l))
	for i, x := range l {
		out[i] = f(x)
	}
	return out
}

// Where returns the elements of a list that a function holds for.
func Where[T any](l []T, holds func(T) bool) []T {
	var out []T
	for _, x := range l {
		if holds(x) {
			out = append(out, x)
		}
	}
	return out
}

// Joined returns ascending spans with one more at their end, which is not empty; spans that touch are one span.
func Joined(l []api.Span, s api.Span) []api.Span {
	if n := len(l); n > 0 && l[n-1].To == s.From {
		l[n-1].To = s.To
		return l
	}
	return append(l, s)
}

// Widened returns ascending spans with one index more at their end; spans that touch are one span.
func Widened(l []api.Span, i int) []api.Span {
	return Joined(l, api.Span{From: i, To: i + 1})
}

// SpansWhere returns the longest spans of successive elements that a function holds for.
func SpansWhere[T any](l []T, holds func(T) bool) []api.Span {
	var spans []api.Span
	for i, x := range l {
		if holds(x) {
			spans = Widened(spans, i)
		}
	}
	return spans
}
