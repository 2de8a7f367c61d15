package pulse

import (
	"slices"

	"glideslope/api"
	"glideslope/common"
)

// traffic is the ticks of the replies to calls, and those of squitter.
type traffic struct {
	replies  []int
	squitter []int
}

// ascending returns ticks in their order, each one once.
func ascending(l []int) []int {
	out := slices.Clone(l)
	slices.Sort(out)
	return slices.Compact(out)
}

// all returns the ticks of all replies.
func (t traffic) all() []int { return ascending(slices.Concat(t.replies, t.squitter)) }

// replies returns the ticks of the replies to calls.
func (s Station) replies(calls []int) []int {
	var l []int
	for _, a := range s.answers(calls) {
		if a.isAnswered() {
			l = append(l, a.Reply)
		}
	}
	return l
}

// squitter returns the ticks of squitter between replies to calls, and up to a tick. It ends early if there are more than MaxPulses.
func (s Station) squitter(replies []int, until int) []int {
	var l []int
	last := 0
	for _, next := range append(slices.Clone(replies), until) {
		end := min(next, until)
		for tick := last + s.Gap; tick < end && len(l) <= MaxPulses; tick += s.Gap {
			l = append(l, tick)
		}
		last = next
	}
	return l
}

// sends returns what a station sends up to a tick, or the first error of its arguments and of the number of replies.
func (s Station) sends(calls []int, until int) (traffic, api.Errno) {
	if e := common.First(CheckStation(s), checkCalls(calls), checkTick(until)); e != api.OK {
		return traffic{}, e
	}
	replies := s.replies(calls)
	t := traffic{replies, s.squitter(replies, until)}
	if len(t.all()) > MaxPulses {
		return traffic{}, api.ErrMany
	}
	return t, api.OK
}

// Squitter returns the ticks at which a station replies without a call.
func Squitter(s Station, calls []int, until int) ([]int, api.Errno) {
	t, e := s.sends(calls, until)
	return t.squitter, e
}

// Replies returns all ticks at which a station replies.
func Replies(s Station, calls []int, until int) ([]int, api.Errno) {
	t, e := s.sends(calls, until)
	return t.all(), e
}

// mostWithin returns the greatest number of ascending ticks in a window of so many ticks.
func mostWithin(l []int, window int) int {
	most, first := 0, 0
	for last, tick := range l {
		for tick-l[first] >= window {
			first++
		}
		most = max(most, last-first+1)
	}
	return most
}

// Load returns the greatest number of replies in a window.
func Load(s Station, calls []int, until int) (int, api.Errno) {
	t, e := s.sends(calls, until)
	return mostWithin(t.all(), s.Window), e
}

// Sent returns the ticks of all pulses of a station.
func Sent(s Station, calls []int, until int) ([]int, api.Errno) {
	t, e := s.sends(calls, until)
	firsts := t.all()
	seconds := common.Mapped(firsts, func(tick int) int { return tick + s.Spacing })
	return ascending(slices.Concat(firsts, seconds)), e
}
