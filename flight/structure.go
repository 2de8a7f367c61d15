package flight

import (
	"slices"

	"glideslope/api"
	"glideslope/common"
)

// What is known of a mark in a zone.
const (
	inside  = -1
	unknown = 0
	outside = 1
)

// sides returns whether each mark of a run is outside in a zone, or inside; it is unknown of those that are open, or not in the zone.
func (f flown) sides(z Zone, alignment api.Interval) []int {
	return common.Mapped(f.run, func(m Mark) int {
		if m.Flag || !common.Within(m.Position, z.At) {
			return unknown
		}
		apart := differences(f.needles(m), alignment)
		switch {
		case apart.Low > z.Limit:
			return outside
		case apart.High <= z.Limit:
			return inside
		}
		return unknown
	})
}

// allSides returns the sides of a run for each zone, or the first error of its arguments.
func (f flown) allSides(zones []Zone) ([][]int, api.Errno) {
	if e := common.First(f.check(), CheckZones(zones)); e != api.OK {
		return nil, e
	}
	alignment, e := f.alignment(anywhere())
	if e != api.OK {
		return nil, e
	}
	return common.Mapped(zones, func(z Zone) []int { return f.sides(z, alignment) }), api.OK
}

// Outside returns which marks are outside, inside, or open.
func Outside(l []Mark, offset api.Interval, zones []Zone) ([]int, api.Errno) {
	all, e := flown{l, offset}.allSides(zones)
	if e != api.OK {
		return nil, e
	}
	out := make([]int, len(l))
	for _, sides := range all {
		for i, side := range sides {
			out[i] += side // no mark is in two zones
		}
	}
	return out, api.OK
}

// Structure returns the spans of marks that are outside, for each zone.
func Structure(l []Mark, offset api.Interval, zones []Zone) ([][]api.Span, api.Errno) {
	all, e := flown{l, offset}.allSides(zones)
	return common.Mapped(all, func(sides []int) []api.Span {
		return common.SpansWhere(sides, func(side int) bool { return side == outside })
	}), e
}

// place returns a mark of which only the position is known.
func (m Mark) place() Mark { return Mark{Position: m.Position} }

// isBeside reports whether two runs have the same positions.
func isBeside(a, b []Mark) bool {
	return slices.EqualFunc(a, b, func(m, n Mark) bool { return m.place() == n.place() })
}

// Polarization returns the polarization of two runs.
func Polarization(a, b []Mark, offset api.Interval) (api.Interval, api.Errno) {
	e := common.First(CheckRun(a), CheckRun(b), common.Failed(!isBeside(a, b), api.ErrShape), checkOffset(offset))
	if e != api.OK {
		return api.Interval{}, e
	}
	f := flown{offset: offset}
	var l []api.Interval
	for i, m := range a {
		if !m.Flag && !b[i].Flag {
			l = append(l, differences(f.needles(m), f.needles(b[i])))
		}
	}
	if len(l) == 0 {
		return api.Interval{}, api.ErrNone
	}
	return byEnds(l, end.greatest), api.OK
}
