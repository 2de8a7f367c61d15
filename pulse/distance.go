package pulse

import (
	"cmp"
	"maps"
	"slices"

	"glideslope/api"
	"glideslope/common"
)

// meant returns the distances that a reply after a call may mean. Its Low is above its High if there are none.
func (s Station) meant(call, reply int) api.Interval {
	time := reply - call - s.Delay
	return api.Interval{
		Low:  max(0, common.Ceiling(time-s.Off, 2)),
		High: common.Floor(time+s.Off, 2),
	}
}

// meanings returns the distances that each reply after a call, or at its tick, may mean, if it means any.
func (s Station) meanings(call int, replies []int) []api.Interval {
	later := common.Where(replies, func(reply int) bool { return reply >= call })
	l := common.Mapped(later, func(reply int) api.Interval { return s.meant(call, reply) })
	return common.Where(l, func(x api.Interval) bool { return x.Low <= x.High })
}

// Distance returns the distances that a reply after a call may mean.
func Distance(s Station, call, reply int) (api.Interval, api.Errno) {
	if e := common.First(CheckStation(s), checkTick(call), checkTick(reply)); e != api.OK {
		return api.Interval{}, e
	}
	x := s.meant(call, reply)
	if x.Low > x.High {
		return api.Interval{}, api.ErrNone
	}
	return x, api.OK
}

// checkReplies returns the first error of a station, calls and replies, or OK.
func checkReplies(s Station, calls, replies []int) api.Errno {
	return common.First(CheckStation(s), checkCalls(calls), checkPulses(replies))
}

// Agreed returns how many calls have a reply for a distance.
func Agreed(s Station, calls, replies []int, distance int) (int, api.Errno) {
	if e := common.First(checkReplies(s, calls, replies), common.Between(distance, 0, MaxDistance)); e != api.OK {
		return 0, e
	}
	agreeing := common.Where(calls, func(call int) bool {
		return slices.ContainsFunc(s.meanings(call, replies), func(x api.Interval) bool { return common.Within(distance, x) })
	})
	return len(agreeing), api.OK
}

// agreement is a distance with the number of calls that agree with it.
type agreement struct {
	distance int
	calls    int
}

// compare compares agreements: the greater one has more calls, or as many and the lesser distance.
func (a agreement) compare(b agreement) int {
	return cmp.Or(cmp.Compare(a.calls, b.calls), cmp.Compare(b.distance, a.distance))
}

// changes returns by how much the number of calls that agree changes at a distance, where it may change.
func (s Station) changes(calls, replies []int) map[int]int {
	changes := map[int]int{}
	for _, call := range calls {
		end := 0
		for _, x := range s.meanings(call, replies) {
			changes[max(x.Low, end)]++ // what an earlier reply may mean does not count again
			end = x.High + 1
			changes[end]--
		}
	}
	return changes
}

// agreements returns the number of calls that agree at the distance 0, and at each one at which it may change.
func (s Station) agreements(calls, replies []int) []agreement {
	changes := s.changes(calls, replies)
	l := []agreement{{}}
	agreeing := 0
	for _, distance := range slices.Sorted(maps.Keys(changes)) {
		agreeing += changes[distance]
		l = append(l, agreement{distance, agreeing})
	}
	return common.Where(l, func(a agreement) bool { return a.distance <= MaxDistance })
}

// Ranged returns the distance for which the most calls have a reply.
func Ranged(s Station, calls, replies []int, need int) (int, int, api.Errno) {
	if e := common.First(checkReplies(s, calls, replies), common.Between(need, 1, MaxCalls)); e != api.OK {
		return 0, 0, e
	}
	best := slices.MaxFunc(s.agreements(calls, replies), agreement.compare)
	if best.calls < need {
		return 0, 0, api.ErrNone
	}
	return best.distance, best.calls, api.OK
}
