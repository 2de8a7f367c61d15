package pulse

import (
	"slices"

	"glideslope/api"
	"glideslope/common"
)

// nearest returns the number of an interval that is the nearest one to a number.
func nearest(x api.Interval, n int) int { return max(x.Low, min(x.High, n)) }

// lets reports whether a gate and an interval have a distance in common.
func (g Gate) lets(x api.Interval) bool {
	return common.Absolute(nearest(x, g.Distance)-g.Distance) <= g.Width
}

// after returns a gate after a call whose replies may mean distances. Its Memory is that of the calls to come; a reply restores it.
func (g Gate) after(l []api.Interval, memory int) Gate {
	lost := Gate{Distance: None}
	if g == lost {
		return lost
	}
	i := slices.IndexFunc(l, g.lets)
	switch {
	case i >= 0:
		return Gate{nearest(l[i], g.Distance), g.Width, memory}
	case g.Memory == 0:
		return lost
	}
	return Gate{g.Distance, g.Width, g.Memory - 1}
}

// Tracked returns the distance after each call, by a gate.
func Tracked(s Station, g Gate, calls, replies []int) ([]int, api.Errno) {
	e := common.First(CheckStation(s), checkGate(g), checkCalls(calls), checkPulses(replies))
	if e != api.OK {
		return nil, e
	}
	now := g
	return common.Mapped(calls, func(call int) int {
		now = now.after(s.meanings(call, replies), g.Memory)
		return now.Distance
	}), api.OK
}
