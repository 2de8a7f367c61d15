package flight_test

import (
	"math"
	"testing"

	"glideslope/api"
	"glideslope/flight"
)

// The tests of this file are those of P8.1.

func box(l ...int) [3]api.Interval { return fix("", l...).Box }

func TestMeet(t *testing.T) {
	for i, x := range []struct {
		l    []flight.Fix
		want [3]api.Interval
		e    api.Errno
	}{
		{fixes1, box(4, 10, 0, 2, 9, 9), api.OK}, {conflict1, box(0, 0, 0, 0, 0, 0), api.ErrConflict}, // the chapter's example
		{fixes1[:1], fixes1[0].Box, api.OK}, {[]flight.Fix{fix("a", -1000000, 1000000, 1000000, 1000000, -1000000, -1000000)}, box(-1000000, 1000000, 1000000, 1000000, -1000000, -1000000), api.OK},
		// they touch, and they do not
		{[]flight.Fix{fix("a", 0, 5, 0, 0, 0, 0), fix("b", 5, 9, 0, 0, 0, 0)}, box(5, 5, 0, 0, 0, 0), api.OK}, {[]flight.Fix{fix("a", 0, 5, 0, 0, 0, 0), fix("b", 6, 9, 0, 0, 0, 0)}, box(0, 0, 0, 0, 0, 0), api.ErrConflict},
		{[]flight.Fix{fix("a", 0, 0, 6, 9, 0, 0), fix("b", 0, 0, 0, 5, 0, 0)}, box(0, 0, 0, 0, 0, 0), api.ErrConflict}, {[]flight.Fix{fix("a", 0, 0, 0, 0, 0, 0), fix("b", 0, 0, 0, 0, 1, 1)}, box(0, 0, 0, 0, 0, 0), api.ErrConflict},
		{[]flight.Fix{fix("a", -1000000, -1000000, 0, 0, 0, 0), fix("b", 1000000, 1000000, 0, 0, 0, 0)}, box(0, 0, 0, 0, 0, 0), api.ErrConflict},
		// two of each three meet, but not all of them
		{[]flight.Fix{fix("a", 0, 1, 0, 1, 0, 9), fix("b", 1, 2, 0, 9, 0, 1), fix("c", 0, 9, 1, 2, 1, 2)}, box(1, 1, 1, 1, 1, 1), api.OK}, {[]flight.Fix{fix("a", 0, 1, 0, 1, 0, 9), fix("b", 1, 2, 0, 9, 0, 1), fix("c", 0, 9, 1, 2, 2, 3)}, box(0, 0, 0, 0, 0, 0), api.ErrConflict},
		{manyFixes(8), box(0, 0, -1000000, 1000000, 5, 5), api.OK},
	} {
		same(t, "Meet", all(i, meets(x.l)), all(i, all(x.want, x.e)))
	}
	checkErrors(t, "Meet", func(a []any) []any { return meets(a[0].([]flight.Fix)) }, all([3]api.Interval{}), argumentOf(fixes1, badFixes()))
}

func TestOdd(t *testing.T) {
	a, b, c, d := fix("a", 0, 5, 0, 0, 0, 0), fix("b", 4, 9, 0, 0, 0, 0), fix("c", 20, 30, 0, 0, 0, 0), fix("d", 25, 40, 0, 0, 0, 0)
	for i, x := range []struct {
		l  []flight.Fix
		at int
		e  api.Errno
	}{
		{conflict1, 1, api.OK}, {fixes1, 0, api.ErrEmpty}, {fixes1[:1], 0, api.ErrEmpty}, {manyFixes(8), 0, api.ErrEmpty}, // the chapter's example
		{[]flight.Fix{a, b, c}, 2, api.OK}, {[]flight.Fix{a, c, b}, 1, api.OK}, {[]flight.Fix{c, a, b}, 0, api.OK}, {[]flight.Fix{a, c, d}, 0, api.OK},
		{[]flight.Fix{a, b, c, d}, 0, api.ErrNone}, {[]flight.Fix{a, fix("f", 10, 11, 0, 0, 0, 0), c}, 0, api.ErrNone},
		// of two that conflict the first one is odd: the other one meets in its own box
		{[]flight.Fix{a, c}, 0, api.OK}, {[]flight.Fix{c, a}, 0, api.OK}, {[]flight.Fix{fixes1[1], conflict1[2]}, 0, api.OK}, {[]flight.Fix{conflict1[2], fixes1[1]}, 0, api.OK}, {[]flight.Fix{fix("f", 0, 0, 0, 0, 0, 0), fix("f1", 1, 1, 0, 0, 0, 0)}, 0, api.OK},
		// of three boxes apart from each other none can be left out
		{[]flight.Fix{fix("a", 0, 0, 0, 0, 0, 0), fix("b", 1, 1, 0, 0, 0, 0), fix("c", 2, 2, 0, 0, 0, 0)}, 0, api.ErrNone},
		// several could be left out: the first one is
		{[]flight.Fix{fix("e", 0, 9, 0, 0, 0, 0), a, fix("f", 8, 9, 0, 0, 0, 0)}, 1, api.OK}, {[]flight.Fix{a, fix("f", 8, 9, 0, 0, 0, 0), fix("e", 0, 9, 0, 0, 0, 0)}, 0, api.OK},
		// by different intervals of the box
		{[]flight.Fix{fix("a", 0, 9, 5, 9, 0, 9), fix("b", 0, 9, 0, 4, 0, 9), fix("c", 0, 9, 0, 9, 0, 4), fix("d", 0, 9, 3, 9, 5, 9)}, 0, api.ErrNone}, {[]flight.Fix{fix("a", 0, 9, 5, 9, 0, 9), fix("b", 0, 9, 0, 4, 0, 4), fix("c", 0, 9, 0, 9, 5, 9)}, 1, api.OK},
	} {
		same(t, "Odd", all(i, odd(x.l)), all(i, all(x.at, x.e)))
	}
	checkErrors(t, "Odd", func(a []any) []any { return odd(a[0].([]flight.Fix)) }, all(0), argumentOf(conflict1, badFixes()))
}

func TestFixesByPlaces(t *testing.T) {
	r := numbers{1}
	counts := map[string]int{}
	for range 4000 {
		l := r.fixes()
		want := all([3]api.Interval{}, api.ErrConflict)
		if b, meet := meetOf(l); meet {
			want = all(b, api.OK)
		}
		same(t, "Meet", all(l, meets(l)), all(l, want))
		same(t, "Odd", all(l, odd(l)), all(l, oddOf(l)))
		counts[shown(odd(l)[1])]++
	}
	same(t, "are there all kinds", all(len(counts), counts[shown(api.OK)] > 300, counts[shown(api.ErrNone)] > 300, counts[shown(api.ErrEmpty)] > 300), all(3, true, true, true))
}

func TestOffset(t *testing.T) {
	for i, x := range []struct {
		l    []flight.Calibration
		want api.Interval
	}{
		{calibrations, interval(2, 4)}, {calibrations[:1], interval(3, 3)}, {calibrations[1:2], interval(2, 2)}, {[]flight.Calibration{{}}, interval(0, 0)}, {make([]flight.Calibration, 16), interval(0, 0)},
		{[]flight.Calibration{{Applied: -1000000, Read: 1000000}, {Applied: 1000000, Read: -1000000}}, interval(-2000000, 2000000)}, {[]flight.Calibration{{Applied: 5, Read: -5}, {Applied: -5, Read: -20}, {Applied: 100, Read: 98}}, interval(-15, -2)},
	} {
		same(t, "Offset", all(i, offset(x.l)), all(i, all(x.want, api.OK)))
	}
	r := numbers{3}
	for range 2000 {
		var l []flight.Calibration
		var offs []int
		for range 1 + r.below(16) {
			c := flight.Calibration{Applied: r.within(1000000), Read: r.within(1000000)}
			l, offs = append(l, c), append(offs, c.Read-c.Applied)
		}
		same(t, "Offset", all(l, offset(l)), all(l, all(reachOf(offs), api.OK)))
	}
	checkErrors(t, "Offset", func(a []any) []any { return offset(a[0].([]flight.Calibration)) }, all(api.Interval{}), argumentOf(calibrations, badCalibrations()))
}

func TestCheckRun(t *testing.T) {
	for i, l := range [][]flight.Mark{runR, runR[:1], manyMarks(64), run(-100000, -1000000, 100000, 1000000), run(0, 0, 1, 0), run(100000, 0), run(-100000, 0), flagged(runR, 0, 1, 2, 3, 4)} {
		same(t, "CheckRun", all(i, flight.CheckRun(l)), all(i, api.OK))
	}
	for _, x := range badRuns() {
		same(t, "CheckRun", all(x.x, flight.CheckRun(x.x)), all(x.x, x.e))
	}
}

func TestTrue(t *testing.T) {
	for i, x := range []struct {
		l      []flight.Mark
		offset api.Interval
		want   []api.Interval
	}{
		{runR, offset2, []api.Interval{interval(-214, -212), interval(-94, -92), interval(1, 3), interval(106, 108), interval(186, 188)}},
		{runR[2:3], exactly(0), []api.Interval{exactly(5)}}, {runR[2:3], interval(-1, 2), []api.Interval{interval(3, 6)}},
		{flagged(runR, 0, 1)[:2], exactly(-3), []api.Interval{exactly(-207), exactly(-87)}}, // also of a mark with a flag
		{run(0, 1000000, 1, -1000000), interval(-2000000, 2000000), []api.Interval{interval(-1000000, 3000000), interval(-3000000, 1000000)}},
	} {
		same(t, "True", all(i, trues(x.l, x.offset)), all(i, all(x.want, api.OK)))
	}
	r := numbers{5}
	for range 1000 {
		l, offset := r.run(64, 300), r.offset()
		var want []api.Interval
		for _, m := range l {
			want = append(want, reachOf(needlesOf(m, offset)))
		}
		same(t, "True", all(l, offset, trues(l, offset)), all(l, offset, all(want, api.OK)))
	}
	checkErrors(t, "True", func(a []any) []any { return trues(a[0].([]flight.Mark), a[1].(api.Interval)) }, all([]api.Interval{}), argumentOf(runR, badRuns()), argumentOf(offset2, badOffsets))
	same(t, "True of as wide an offset as can be", trues(run(0, 0), interval(-2000000, 2000000)), all([]api.Interval{interval(-2000000, 2000000)}, api.OK))
	same(t, "True of no offset", trues(run(0, 0), interval(math.MaxInt, math.MinInt)), all([]api.Interval{}, api.ErrRange))
}
