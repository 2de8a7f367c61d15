package flight

import (
	"iter"
	"slices"

	"glideslope/api"
	"glideslope/common"
)

// anywhere returns the zone of all positions.
func anywhere() api.Interval { return api.Interval{Low: -MaxPosition, High: MaxPosition} }

// off returns by how much a receiver was off.
func (c Calibration) off() int { return c.Read - c.Applied }

// Offset returns the offset of a receiver.
func Offset(l []Calibration) (api.Interval, api.Errno) {
	if e := checkCalibrations(l); e != api.OK {
		return api.Interval{}, e
	}
	return common.Reach(common.Mapped(l, Calibration.off)...), api.OK
}

// flown is a run with the offset of its receiver.
type flown struct {
	run    []Mark
	offset api.Interval
}

// check returns the first error of a run and of its offset, or OK.
func (f flown) check() api.Errno { return common.First(CheckRun(f.run), checkOffset(f.offset)) }

// needles returns the true needles of a mark.
func (f flown) needles(m Mark) api.Interval {
	return api.Interval{Low: m.Needle - f.offset.High, High: m.Needle - f.offset.Low}
}

// marks visits the marks of a zone: those with a flag are in none.
func (f flown) marks(zone api.Interval) iter.Seq[Mark] {
	return func(yield func(Mark) bool) {
		for _, m := range f.run {
			if !m.Flag && common.Within(m.Position, zone) && !yield(m) {
				return
			}
		}
	}
}

// needlesIn returns the true needles of the marks of a zone, or ErrNone if there are none.
func (f flown) needlesIn(zone api.Interval) ([]api.Interval, api.Errno) {
	var l []api.Interval
	for m := range f.marks(zone) {
		l = append(l, f.needles(m))
	}
	return l, common.Failed(len(l) == 0, api.ErrNone)
}

// True returns the true needles of each mark.
func True(l []Mark, offset api.Interval) ([]api.Interval, api.Errno) {
	f := flown{l, offset}
	if e := f.check(); e != api.OK {
		return nil, e
	}
	return common.Mapped(l, f.needles), api.OK
}

// alignment returns the alignment in a zone, or ErrNone if it has no marks.
func (f flown) alignment(zone api.Interval) (api.Interval, api.Errno) {
	l, e := f.needlesIn(zone)
	if e != api.OK {
		return api.Interval{}, e
	}
	return byEnds(l, end.mean), api.OK
}

// Alignment returns the alignment of a run in a zone.
func Alignment(l []Mark, offset, zone api.Interval) (api.Interval, api.Errno) {
	f := flown{l, offset}
	if e := common.First(f.check(), checkPositions(zone)); e != api.OK {
		return api.Interval{}, e
	}
	return f.alignment(zone)
}

// edge returns the edge at a level, or ErrNone if there is none.
func (f flown) edge(level int) (api.Interval, api.Errno) {
	l := slices.Collect(f.marks(anywhere()))
	from := slices.IndexFunc(l, func(m Mark) bool { return f.needles(m).High >= level })
	to := len(l)
	for to > 0 && f.needles(l[to-1]).Low >= level {
		to--
	}
	if to == len(l) {
		return api.Interval{}, api.ErrNone
	}
	// the mark of To has a needle that is high enough for From, too
	return api.Interval{Low: l[from].Position, High: l[to].Position}, api.OK
}

// Edge returns the edge of a run at a level.
func Edge(l []Mark, offset api.Interval, level int) (api.Interval, api.Errno) {
	f := flown{l, offset}
	if e := common.First(f.check(), checkNeedle(level)); e != api.OK {
		return api.Interval{}, e
	}
	return f.edge(level)
}

// Width returns the width of a run for a deflection.
func Width(l []Mark, offset api.Interval, deflection int) (api.Interval, api.Errno) {
	f := flown{l, offset}
	if e := common.First(f.check(), common.Between(deflection, 1, MaxNeedle)); e != api.OK {
		return api.Interval{}, e
	}
	left, noLeft := f.edge(-deflection)
	right, noRight := f.edge(deflection)
	if e := common.First(noLeft, noRight); e != api.OK {
		return api.Interval{}, e
	}
	return api.Interval{Low: max(0, right.Low-left.High), High: max(0, right.High-left.Low)}, api.OK
}

// Clearance returns the clearance of a run in a zone.
func Clearance(l []Mark, offset, zone api.Interval) (api.Interval, api.Errno) {
	f := flown{l, offset}
	if e := common.First(f.check(), checkPositions(zone)); e != api.OK {
		return api.Interval{}, e
	}
	needles, e := f.needlesIn(zone)
	if e != api.OK {
		return api.Interval{}, e
	}
	sizes := common.Mapped(needles, func(x api.Interval) api.Interval { return differences(x, common.Exactly(0)) })
	return byEnds(sizes, end.least), api.OK
}
