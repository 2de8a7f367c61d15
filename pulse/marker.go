package pulse

import (
	"strings"

	"glideslope/api"
	"glideslope/common"
)

// name returns the name of a marker.
func (m Marker) name() string { return m.Name }

// has reports whether a place is in the span of a marker.
func (m Marker) has(place int) bool { return m.From <= place && place < m.To }

// heard is a marker with the tick at which it was first heard, or None if it is not heard.
type heard struct {
	Marker
	since int
}

// at returns what is heard of a marker at a tick, by what was heard at the one before it.
func (h heard) at(tick, place int) heard {
	switch {
	case !h.has(place):
		return heard{h.Marker, None}
	case h.since == None:
		return heard{h.Marker, tick}
	}
	return h
}

// isLit reports whether the lamp of a marker is lit at a tick.
func (h heard) isLit(tick int) bool {
	if h.since == None {
		return false
	}
	isOn, left := false, tick-h.since
	for i := 0; left >= 0; i++ {
		left -= h.Keys[i%len(h.Keys)]
		isOn = !isOn
	}
	return isOn
}

// Lamps returns the lamps that are lit at each tick.
func Lamps(l []Marker, way []int) ([]string, api.Errno) {
	if e := common.First(CheckMarkers(l), checkWay(way)); e != api.OK {
		return nil, e
	}
	now := common.Mapped(l, func(m Marker) heard { return heard{m, None} })
	lamps := make([]string, len(way))
	for tick := range len(way) {
		now = common.Mapped(now, func(h heard) heard { return h.at(tick, way[tick]) })
		lit := common.Where(now, func(h heard) bool { return h.isLit(tick) })
		lamps[tick] = strings.Join(common.Mapped(lit, heard.name), " ")
	}
	return lamps, api.OK
}

// Passed returns the ticks in which a marker is heard.
func Passed(l []Marker, way []int, name string) ([]api.Span, api.Errno) {
	if e := common.First(CheckMarkers(l), checkWay(way)); e != api.OK {
		return nil, e
	}
	i, is := common.Indices(l, Marker.name)[name]
	if !is {
		return nil, api.ErrUnknown
	}
	return common.SpansWhere(way, l[i].has), api.OK
}
