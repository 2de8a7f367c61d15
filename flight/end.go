package flight

import (
	"slices"

	"glideslope/api"
	"glideslope/common"
)

// end is an end of intervals, and how a quotient is rounded to it.
type end struct {
	of      func(x api.Interval) int
	rounded func(num, den int) int
}

// low returns the lower end of intervals.
func low() end { return end{func(x api.Interval) int { return x.Low }, common.Floor[int]} }

// high returns the upper end of intervals.
func high() end { return end{func(x api.Interval) int { return x.High }, common.Ceiling[int]} }

// mean returns the mean of an end of intervals.
func (d end) mean(l []api.Interval) int {
	sum := 0
	for _, x := range l {
		sum += d.of(x)
	}
	return d.rounded(sum, len(l))
}

// least returns the least one of an end of intervals.
func (d end) least(l []api.Interval) int { return slices.Min(common.Mapped(l, d.of)) }

// greatest returns the greatest one of an end of intervals.
func (d end) greatest(l []api.Interval) int { return slices.Max(common.Mapped(l, d.of)) }

// byEnds returns the interval of what a function makes of each end of intervals.
func byEnds(l []api.Interval, f func(d end, l []api.Interval) int) api.Interval {
	return api.Interval{Low: f(low(), l), High: f(high(), l)}
}

// differences returns the interval from the least to the greatest absolute difference of numbers of two intervals.
func differences(a, b api.Interval) api.Interval {
	return api.Interval{
		Low:  max(0, a.Low-b.High, b.Low-a.High),
		High: max(a.High-b.Low, b.High-a.Low),
	}
}
