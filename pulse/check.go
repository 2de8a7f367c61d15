package pulse

import (
	"glideslope/api"
	"glideslope/common"
	"glideslope/record"
)

// ranges has the ranges of the numbers of a station, in their order.
var ranges = [8]api.Interval{
	{Low: 1, High: MaxSpacing},
	{Low: 0, High: MaxDelay},
	{Low: 0, High: MaxOff},
	{Low: 0, High: MaxDead},
	{Low: 0, High: MaxEcho},
	{Low: 1, High: MaxMost},
	{Low: 1, High: MaxGap},
	{Low: 1, High: MaxGap},
}

// numbers returns the numbers of a station in their order.
func (s Station) numbers() [8]int {
	return [8]int{s.Spacing, s.Delay, s.Off, s.Dead, s.Echo, s.Most, s.Window, s.Gap}
}

// CheckStation returns the first error of a station, or OK.
func CheckStation(s Station) api.Errno {
	for i, n := range s.numbers() {
		if !common.Within(n, ranges[i]) {
			return api.ErrRange
		}
	}
	return api.OK
}

// checkTick returns the error of a tick, or OK.
func checkTick(tick int) api.Errno { return common.Between(tick, 0, api.MaxTick) }

// checkTicks returns the error of strictly ascending ticks, of which so many are permitted, or OK.
func checkTicks(l []int, most int) api.Errno {
	ascending := common.Ascending(-1)
	return common.CheckList(l, most, func(tick int) api.Errno {
		return common.First(checkTick(tick), ascending(tick))
	})
}

// checkPulses returns the error of pulses, or of replies, or OK.
func checkPulses(l []int) api.Errno { return checkTicks(l, MaxPulses) }

// checkCalls returns the error of calls, or OK.
func checkCalls(l []int) api.Errno { return checkTicks(l, MaxCalls) }

// checkGate returns the error of a gate, or OK.
func checkGate(g Gate) api.Errno {
	return common.First(
		common.Between(g.Distance, 0, MaxDistance),
		common.Between(g.Width, 0, MaxOff),
		common.Between(g.Memory, 0, MaxCalls))
}

// checkPlace returns the error of a place, or OK.
func checkPlace(place int) api.Errno { return common.Between(place, -MaxPlace, MaxPlace) }

// checkKeys returns the error of keys, or OK.
func checkKeys(l []int) api.Errno {
	return common.CheckSome(l, MaxKeys, func(ticks int) api.Errno { return common.Between(ticks, 1, MaxGap) })
}

// CheckMarkers returns the first error of markers, or OK.
func CheckMarkers(l []Marker) api.Errno {
	checkName := common.Distinct(record.IsName)
	return common.CheckList(l, MaxMarkers, func(m Marker) api.Errno {
		return common.First(
			checkName(m.Name),
			checkPlace(m.From),
			checkPlace(m.To),
			common.Failed(m.From >= m.To, api.ErrSpan),
			checkKeys(m.Keys))
	})
}

// checkWay returns the error of a way, or OK.
func checkWay(way []int) api.Errno { return common.CheckSome(way, MaxWay, checkPlace) }
