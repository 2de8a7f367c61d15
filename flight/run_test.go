package flight_test

import (
	"testing"

	"glideslope/api"
	"glideslope/flight"
)

// The tests of this file are those of P8.2 for alignment, edges, widths and clearance.

// orNone returns an interval with OK, or nothing with ErrNone.
func orNone(x api.Interval, is bool) []any {
	if !is {
		return all(api.Interval{}, api.ErrNone)
	}
	return all(x, api.OK)
}

func TestAlignment(t *testing.T) {
	for i, x := range []struct {
		l            []flight.Mark
		offset, zone api.Interval
		want         []any
	}{
		{runR, offset2, interval(-20, 20), orNone(interval(4, 7), true)}, {runR, offset2, everywhere, orNone(interval(-3, -1), true)}, // the chapter's examples
		// the ends of a zone belong to it
		{runR, exactly(0), interval(20, 40), orNone(exactly(150), true)}, {runR, exactly(0), interval(21, 40), orNone(exactly(190), true)}, {runR, exactly(0), interval(20, 39), orNone(exactly(110), true)}, {runR, exactly(0), interval(20, 20), orNone(exactly(110), true)}, {runR, exactly(0), interval(21, 39), orNone(api.Interval{}, false)}, {runR, exactly(0), interval(41, 100000), orNone(api.Interval{}, false)}, {runR, exactly(0), interval(-100000, -41), orNone(api.Interval{}, false)},
		// rounded, also below 0
		{run(0, 1, 1, 2), exactly(0), everywhere, orNone(interval(1, 2), true)}, {run(0, -1, 1, -2), exactly(0), everywhere, orNone(interval(-2, -1), true)}, {run(0, 1, 1, 0, 2, 0), exactly(0), everywhere, orNone(interval(0, 1), true)}, {run(0, -1, 1, 0, 2, 0), exactly(0), everywhere, orNone(interval(-1, 0), true)}, {run(0, 2, 1, 4), exactly(0), everywhere, orNone(exactly(3), true)},
		// without those that have a flag
		{flagged(runR, 3), exactly(0), interval(20, 40), orNone(exactly(190), true)}, {flagged(runR, 3, 4), exactly(0), interval(20, 40), orNone(api.Interval{}, false)}, {flagged(runR, 0, 1, 2, 3, 4), exactly(0), everywhere, orNone(api.Interval{}, false)},
		{run(100000, 1000000, 100000-1, 1000000)[:1], interval(-2000000, 2000000), exactly(100000), orNone(interval(-1000000, 3000000), true)}, {run(-100000, -1000000), interval(-2000000, -2000000), exactly(-100000), orNone(exactly(1000000), true)},
	} {
		same(t, "Alignment", all(i, aligned(x.l, x.offset, x.zone)), all(i, x.want))
	}
	r := numbers{7}
	for range 2000 {
		l, offset, zone := r.run(64, 300), r.offset(), r.interval(100)
		same(t, "Alignment", all(l, offset, zone, aligned(l, offset, zone)), all(l, offset, zone, orNone(alignmentOf(l, offset, zone))))
	}
	checkErrors(t, "Alignment", func(a []any) []any { return aligned(a[0].([]flight.Mark), a[1].(api.Interval), a[2].(api.Interval)) }, all(api.Interval{}), argumentOf(runR, badRuns()), argumentOf(offset2, badOffsets), argumentOf(everywhere, badZones))
}

func TestEdge(t *testing.T) {
	for i, x := range []struct {
		l      []flight.Mark
		offset api.Interval
		level  int
		want   []any
	}{
		{runR, offset2, 107, orNone(interval(20, 40), true)}, {runR, offset2, 100, orNone(exactly(20), true)}, {runR, offset2, -150, orNone(exactly(-20), true)}, {runR, offset2, -100, orNone(exactly(-20), true)}, // the chapter's examples
		// at the needles themselves, and beside them
		{runR, offset2, 106, orNone(exactly(20), true)}, {runR, offset2, 108, orNone(interval(20, 40), true)}, {runR, offset2, 109, orNone(exactly(40), true)}, {runR, offset2, 186, orNone(exactly(40), true)}, {runR, offset2, 187, orNone(api.Interval{}, false)}, {runR, offset2, 188, orNone(api.Interval{}, false)}, {runR, offset2, 189, orNone(api.Interval{}, false)},
		{runR, offset2, -214, orNone(exactly(-40), true)}, {runR, offset2, -213, orNone(interval(-40, -20), true)}, {runR, offset2, -1000000, orNone(exactly(-40), true)}, {runR, offset2, 1000000, orNone(api.Interval{}, false)},
		// it rises, falls and rises again
		{run(0, 0, 1, 10, 2, 5, 3, 10, 4, 11), exactly(0), 10, orNone(interval(1, 3), true)}, {run(0, 0, 1, 10, 2, 5, 3, 10, 4, 11), exactly(0), 5, orNone(exactly(1), true)}, {run(0, 10, 1, 10, 2, 5, 3, 10, 4, 9), exactly(0), 10, orNone(api.Interval{}, false)}, {run(0, 10, 1, 0, 2, 10), exactly(0), 10, orNone(interval(0, 2), true)},
		// without those that have a flag
		{flagged(runR, 3), offset2, 107, orNone(exactly(40), true)}, {flagged(runR, 4), offset2, 107, orNone(api.Interval{}, false)}, {flagged(runR, 4), offset2, 106, orNone(exactly(20), true)}, {flagged(run(0, 0, 1, 10, 2, 5, 3, 10), 2), exactly(0), 10, orNone(exactly(1), true)}, {flagged(run(0, 10, 1, 10), 0, 1), exactly(0), 10, orNone(api.Interval{}, false)}, {flagged(run(0, 10, 1, 10), 1), exactly(0), 10, orNone(exactly(0), true)},
		{run(0, -1000000, 1, 1000000), interval(-2000000, 2000000), -1000000, orNone(interval(0, 1), true)}, {run(-100000, 1000000, 100000, 1000000), exactly(0), 1000000, orNone(exactly(-100000), true)},
	} {
		same(t, "Edge", all(i, edged(x.l, x.offset, x.level)), all(i, x.want))
	}
	r := numbers{9}
	for range 2000 {
		l, offset, level := r.rising(12, 9), r.offset(), r.within(30)
		same(t, "Edge", all(l, offset, level, edged(l, offset, level)), all(l, offset, level, orNone(edgeOf(l, offset, level))))
	}
	checkErrors(t, "Edge", func(a []any) []any { return edged(a[0].([]flight.Mark), a[1].(api.Interval), a[2].(int)) }, all(api.Interval{}), argumentOf(runR, badRuns()), argumentOf(offset2, badOffsets), argumentOf(100, badLevels))
}

func TestWidth(t *testing.T) {
	for i, x := range []struct {
		l          []flight.Mark
		offset     api.Interval
		deflection int
		want       []any
	}{
		{runR, offset2, 100, orNone(exactly(40), true)}, {runR, offset2, 107, orNone(interval(40, 60), true)}, // the chapter's examples
		{runR, offset2, 93, orNone(interval(20, 40), true)}, {runR, offset2, 186, orNone(exactly(60), true)}, {runR, offset2, 1, orNone(exactly(0), true)}, {runR, offset2, 2, orNone(interval(0, 20), true)},
		// there is no edge to the right, or none of both
		{runR, offset2, 187, orNone(api.Interval{}, false)}, {runR, offset2, 1000000, orNone(api.Interval{}, false)}, {run(0, -5, 1, -9), exactly(0), 5, orNone(api.Interval{}, false)}, {run(0, -5, 1, -9), exactly(0), 9, orNone(api.Interval{}, false)}, {run(0, 0, 1, 9), exactly(0), 9, orNone(exactly(1), true)},
		// both edges lie on top of each other
		{run(0, -9, 5, 0, 9, 3), interval(-5, 5), 2, orNone(api.Interval{}, false)}, {run(0, -9, 5, 0, 9, 8), interval(-5, 5), 3, orNone(interval(0, 4), true)}, {run(0, -9, 5, -6, 7, 0, 9, 9), interval(-5, 5), 4, orNone(interval(0, 9), true)}, {run(0, -3, 3, -3, 7, 3, 9, 9), interval(-2, 2), 4, orNone(interval(0, 9), true)}, {run(0, 9, 5, 9), exactly(0), 9, orNone(exactly(0), true)},
		{flagged(runR, 1), offset2, 100, orNone(exactly(20), true)}, {flagged(runR, 4), offset2, 107, orNone(api.Interval{}, false)},
		{run(-100000, -1000000, 100000, 1000000), exactly(0), 1000000, orNone(exactly(200000), true)}, {run(-100000, -1000000, 100000, 1000000), exactly(0), 999999, orNone(exactly(0), true)},
	} {
		same(t, "Width", all(i, wide(x.l, x.offset, x.deflection)), all(i, x.want))
	}
	r := numbers{11}
	for range 2000 {
		l, offset, deflection := r.rising(20, 9), r.offset(), 1+r.below(20)
		same(t, "Width", all(l, offset, deflection, wide(l, offset, deflection)), all(l, offset, deflection, widthOf(l, offset, deflection)))
	}
	checkErrors(t, "Width", func(a []any) []any { return wide(a[0].([]flight.Mark), a[1].(api.Interval), a[2].(int)) }, all(api.Interval{}), argumentOf(runR, badRuns()), argumentOf(offset2, badOffsets), argumentOf(100, badDeflections))
}

func TestClearance(t *testing.T) {
	for i, x := range []struct {
		l            []flight.Mark
		offset, zone api.Interval
		want         []any
	}{
		{runR, offset2, interval(10, 40), orNone(interval(106, 108), true)}, {runR, offset2, interval(-40, 40), orNone(interval(1, 3), true)}, // the chapter's examples
		{runR, offset2, interval(-40, -10), orNone(interval(92, 94), true)}, {runR, offset2, interval(-40, -40), orNone(interval(212, 214), true)}, {runR, offset2, interval(1, 19), orNone(api.Interval{}, false)},
		// an interval with 0, at its ends, too
		{run(0, 5), interval(4, 7), everywhere, orNone(interval(0, 2), true)}, {run(0, 5), interval(2, 7), everywhere, orNone(interval(0, 3), true)}, {run(0, 5), interval(5, 7), everywhere, orNone(interval(0, 2), true)}, {run(0, 5), interval(2, 5), everywhere, orNone(interval(0, 3), true)}, {run(0, 5), interval(2, 4), everywhere, orNone(interval(1, 3), true)}, {run(0, 5), interval(6, 7), everywhere, orNone(interval(1, 2), true)},
		// the least ones are of different marks
		{run(0, 3, 1, -4), interval(-2, 2), everywhere, orNone(interval(1, 5), true)}, {run(0, -8, 1, 9, 2, 7), interval(-1, 1), everywhere, orNone(interval(6, 8), true)},
		{flagged(runR, 2), offset2, interval(-40, 40), orNone(interval(92, 94), true)}, {flagged(runR, 0, 1, 2, 3, 4), offset2, everywhere, orNone(api.Interval{}, false)},
		{run(0, 1000000), exactly(-2000000), everywhere, orNone(exactly(3000000), true)},
	} {
		same(t, "Clearance", all(i, cleared(x.l, x.offset, x.zone)), all(i, x.want))
	}
	r := numbers{13}
	for range 2000 {
		l, offset, zone := r.run(20, 30), r.offset(), r.interval(100)
		same(t, "Clearance", all(l, offset, zone, cleared(l, offset, zone)), all(l, offset, zone, clearanceOf(l, offset, zone)))
	}
	checkErrors(t, "Clearance", func(a []any) []any { return cleared(a[0].([]flight.Mark), a[1].(api.Interval), a[2].(api.Interval)) }, all(api.Interval{}), argumentOf(runR, badRuns()), argumentOf(offset2, badOffsets), argumentOf(everywhere, badZones))
}
