package common

import (
	"slices"

	"glideslope/api"
)

// CheckInterval returns the first error of an interval that lies from low to high, or OK.
func CheckInterval(x api.Interval, low, high int) api.Errno {
	ends := [2]int{x.Low, x.High}
	ordered := [2]int{min(x.Low, x.High), max(x.Low, x.High)}
	return First(
		Between(x.Low, low, high),
		Between(x.High, low, high),
		Failed(ends != ordered, api.ErrOrder))
}

// CheckSpan returns ErrSpan if a span is empty, begins below 0 or ends above a limit, or OK.
func CheckSpan(s api.Span, most int) api.Errno {
	return Failed(s.From < 0 || s.To <= s.From || s.To > most, api.ErrSpan)
}

// Within reports whether a number lies in an interval.
func Within(n int, x api.Interval) bool { return x.Low <= n && n <= x.High }

// Exactly returns the interval of one number.
func Exactly(n int) api.Interval { return api.Interval{Low: n, High: n} }

// Reach returns the interval from the least to the greatest number.
func Reach(l ...int) api.Interval { return api.Interval{Low: slices.Min(l), High: slices.Max(l)} }

// Shared returns the interval of the numbers that two intervals have in common. Its Low is above its High if there are none.
func Shared(a, b api.Interval) api.Interval {
	return api.Interval{Low: max(a.Low, b.Low), High: min(a.High, b.High)}
}

// Sums returns the interval of the sums of numbers of two intervals.
func Sums(a, b api.Interval) api.Interval {
	return api.Interval{Low: a.Low + b.Low, High: a.High + b.High}
}

// Products returns the interval of the products of numbers of two intervals.
func Products(a, b api.Interval) api.Interval {
	return Reach(a.Low*b.Low, a.Low*b.High, a.High*b.Low, a.High*b.High)
}

// Squares returns the interval of the squares of an interval's numbers.
func Squares(a api.Interval) api.Interval {
	out := Reach(a.Low*a.Low, a.High*a.High)
	if a.Low < 0 && a.High > 0 {
		out.Low = 0
	}
	return out
}
