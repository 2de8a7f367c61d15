package flight_test

import (
	"testing"

	"glideslope/api"
	"glideslope/flight"
)

// The tests of this file are those of P8.2 for zones, structure and polarization.

func TestCheckZones(t *testing.T) {
	for i, l := range [][]flight.Zone{{zone(0, 0, 0)}, {zone(-100000, 100000, 1000000)}, {zone(-100000, -100000, 0), zone(-99999, 0, 5), zone(1, 1, 1000000), zone(2, 100000, 7)}} {
		same(t, "CheckZones", all(i, flight.CheckZones(l)), all(i, api.OK))
	}
	for _, x := range badZoneLists() {
		same(t, "CheckZones", all(x.x, flight.CheckZones(x.x)), all(x.x, x.e))
	}
}

func TestStructure(t *testing.T) {
	far := run(0, 100, 1, 100, 2, -100, 3, -100, 4, 0, 5, 100, 6, 100, 7, -100, 8, -100)
	for i, x := range []struct {
		l         []flight.Mark
		offset    api.Interval
		zones     []flight.Zone
		sides     []int
		structure [][]api.Span
	}{
		// the chapter's examples
		{runR, offset2, []flight.Zone{zone(20, 40, 110)}, indices(0, 0, 0, 0, 1), [][]api.Span{{span(4, 5)}}},
		{runR, offset2, []flight.Zone{zone(20, 40, 200)}, indices(0, 0, 0, -1, -1), [][]api.Span{nil}},
		{runR, offset2, []flight.Zone{zone(20, 40, 100)}, indices(0, 0, 0, 1, 1), [][]api.Span{{span(3, 5)}}},
		// at the limit, and beside it: the alignment is -3 to -1
		{runR, offset2, []flight.Zone{zone(20, 20, 106)}, indices(0, 0, 0, 1, 0), [][]api.Span{{span(3, 4)}}}, {runR, offset2, []flight.Zone{zone(20, 20, 107)}, indices(0, 0, 0, 0, 0), [][]api.Span{nil}}, {runR, offset2, []flight.Zone{zone(20, 20, 110)}, indices(0, 0, 0, 0, 0), [][]api.Span{nil}}, {runR, offset2, []flight.Zone{zone(20, 20, 111)}, indices(0, 0, 0, -1, 0), [][]api.Span{nil}},
		{runR, offset2, []flight.Zone{zone(-20, -20, 88)}, indices(0, 1, 0, 0, 0), [][]api.Span{{span(1, 2)}}}, {runR, offset2, []flight.Zone{zone(-20, -20, 89)}, indices(0, 0, 0, 0, 0), [][]api.Span{nil}}, {runR, offset2, []flight.Zone{zone(-20, -20, 92)}, indices(0, 0, 0, 0, 0), [][]api.Span{nil}}, {runR, offset2, []flight.Zone{zone(-20, -20, 93)}, indices(0, -1, 0, 0, 0), [][]api.Span{nil}},
		{run(0, 5, 1, 5), exactly(0), []flight.Zone{zone(0, 1, 0)}, indices(-1, -1), [][]api.Span{nil}}, {run(0, 5, 1, 6), exactly(0), []flight.Zone{zone(0, 1, 0)}, indices(0, 0), [][]api.Span{nil}}, {run(0, 5, 1, 7), exactly(0), []flight.Zone{zone(0, 1, 0)}, indices(1, 1), [][]api.Span{{span(0, 2)}}}, {run(0, 5, 1, 7), exactly(0), []flight.Zone{zone(0, 1, 1)}, indices(-1, -1), [][]api.Span{nil}},
		// each zone has a limit and spans of its own, and the alignment is that of all positions
		{runR, offset2, []flight.Zone{zone(-40, -20, 100), zone(-19, 20, 100), zone(21, 100, 200)}, indices(1, -1, -1, 1, -1), [][]api.Span{{span(0, 1)}, {span(3, 4)}, nil}},
		{far, exactly(0), []flight.Zone{zone(0, 1, 50), zone(2, 3, 50), zone(5, 8, 50)}, indices(1, 1, 1, 1, 0, 1, 1, 1, 1), [][]api.Span{{span(0, 2)}, {span(2, 4)}, {span(5, 9)}}},
		// a flag ends a span, and so does a mark that is not outside, or out of all zones
		{flagged(far, 1, 6), exactly(0), []flight.Zone{zone(0, 8, 50)}, indices(1, 0, 1, 1, -1, 1, 0, 1, 1), [][]api.Span{{span(0, 1), span(2, 4), span(5, 6), span(7, 9)}}},
		{far, exactly(0), []flight.Zone{zone(0, 3, 50), zone(6, 8, 200)}, indices(1, 1, 1, 1, 0, 0, -1, -1, -1), [][]api.Span{{span(0, 4)}, nil}},
		{flagged(far, 0, 1, 2, 3, 5, 6, 7, 8), exactly(0), []flight.Zone{zone(0, 3, 50), zone(6, 8, 50)}, indices(0, 0, 0, 0, 0, 0, 0, 0, 0), [][]api.Span{nil, nil}},
		{runR, offset2, []flight.Zone{zone(-1000, -500, 0), zone(500, 1000, 0)}, indices(0, 0, 0, 0, 0), [][]api.Span{nil, nil}},
		{run(-100000, -1000000, 100000, 1000000), interval(-2000000, 2000000), []flight.Zone{zone(-100000, 100000, 1000000)}, indices(0, 0), [][]api.Span{nil}}, {run(-100000, -1000000, 100000, 1000000), exactly(2000000), []flight.Zone{zone(-100000, 100000, 999999)}, indices(1, 1), [][]api.Span{{span(0, 2)}}},
	} {
		same(t, "Outside", all(i, sided(x.l, x.offset, x.zones)), all(i, all(x.sides, api.OK)))
		same(t, "Structure", all(i, structured(x.l, x.offset, x.zones)), all(i, all(x.structure, api.OK)))
	}
}

func TestStructureByNeedles(t *testing.T) {
	r := numbers{15}
	counts := map[int]int{}
	for range 1500 {
		l, offset, zones := r.run(30, 40), r.offset(), r.zones(40)
		sides, is := outsideOf(l, offset, zones)
		if !is {
			same(t, "Outside", all(l, sided(l, offset, zones)), all(l, all([]int{}, api.ErrNone)))
			same(t, "Structure", all(l, structured(l, offset, zones)), all(l, all([][]api.Span{}, api.ErrNone)))
			counts[2]++
			continue
		}
		same(t, "Outside", all(l, offset, zones, sided(l, offset, zones)), all(l, offset, zones, all(sides, api.OK)))
		same(t, "Structure", all(l, offset, zones, structured(l, offset, zones)), all(l, offset, zones, all(structureOf(l, offset, zones), api.OK)))
		for _, side := range sides {
			counts[side]++
		}
	}
	same(t, "are there all kinds", all(counts[-1] > 1000, counts[0] > 1000, counts[1] > 1000, counts[2] > 3), all(true, true, true, true))
}

func TestStructureErrors(t *testing.T) {
	arguments := []argument{argumentOf(runR, badRuns()), argumentOf(offset2, badOffsets), argumentOf([]flight.Zone{zone(20, 40, 110)}, badZoneLists())}
	checkErrors(t, "Outside", func(a []any) []any { return sided(a[0].([]flight.Mark), a[1].(api.Interval), a[2].([]flight.Zone)) }, all([]int{}), arguments...)
	checkErrors(t, "Structure", func(a []any) []any {
		return structured(a[0].([]flight.Mark), a[1].(api.Interval), a[2].([]flight.Zone))
	}, all([][]api.Span{}), arguments...)
	none := flagged(runR, 0, 1, 2, 3, 4)
	zones := []flight.Zone{zone(20, 40, 110)}
	same(t, "marks with flags alone", all(sided(none, offset2, zones), structured(none, offset2, zones), sided(none, offset2, nil), structured(none, offset2, nil)), all(all([]int{}, api.ErrNone), all([][]api.Span{}, api.ErrNone), all([]int{}, api.ErrEmpty), all([][]api.Span{}, api.ErrEmpty)))
	// it is enough if there is a mark in no zone
	same(t, "a mark in no zone", sided(flagged(runR, 0, 1, 3, 4), offset2, zones), all(indices(0, 0, 0, 0, 0), api.OK))
}

func TestPolarization(t *testing.T) {
	other := with(flagged(runR), func(l *[]flight.Mark) { (*l)[3].Needle = 113 })
	for i, x := range []struct {
		a, b   []flight.Mark
		offset api.Interval
		want   []any
	}{
		{runR, other, offset2, orNone(interval(1, 5), true)}, {other, runR, offset2, orNone(interval(1, 5), true)}, {runR, other, exactly(9), orNone(exactly(3), true)}, {runR, other, interval(0, 3), orNone(interval(0, 6), true)}, {runR, other, interval(0, 2), orNone(interval(1, 5), true)}, {runR, runR, offset2, orNone(interval(0, 2), true)}, // the chapter's example
		// marks with a flag in one of both do not count
		{runR, flagged(other, 3), offset2, orNone(interval(0, 2), true)}, {flagged(runR, 3), other, offset2, orNone(interval(0, 2), true)}, {flagged(runR, 0, 1), flagged(other, 2, 4), offset2, orNone(interval(1, 5), true)},
		{flagged(runR, 0, 1, 2), flagged(other, 3, 4), offset2, orNone(api.Interval{}, false)}, {runR, flagged(runR, 0, 1, 2, 3, 4), offset2, orNone(api.Interval{}, false)},
		// the greatest differences, above and below
		{run(0, 10, 1, 20, 2, 30), run(0, 19, 1, 8, 2, 30), interval(-1, 1), orNone(interval(10, 14), true)}, {run(0, -1000000), run(0, 1000000), interval(-2000000, 2000000), orNone(interval(0, 6000000), true)}, {run(0, -1000000), run(0, 1000000), exactly(5), orNone(exactly(2000000), true)},
	} {
		same(t, "Polarization", all(i, polarized(x.a, x.b, x.offset)), all(i, x.want))
	}
	r := numbers{17}
	for range 2000 {
		a, offset := r.run(20, 30), r.offset()
		b := flagged(a)
		for i := range b {
			b[i].Needle, b[i].Flag = b[i].Needle+r.within(9), r.is(6)
		}
		same(t, "Polarization", all(a, b, offset, polarized(a, b, offset)), all(a, b, offset, polarizationOf(a, b, offset)))
	}
}

func TestPolarizationErrors(t *testing.T) {
	others := append(badRuns(), bad[[]flight.Mark]{runR[1:], api.ErrShape}, bad[[]flight.Mark]{runR[:4], api.ErrShape}, bad[[]flight.Mark]{append(runR[:5:5], flight.Mark{Position: 41}), api.ErrShape}, bad[[]flight.Mark]{run(-40, 0, -20, 0, 0, 0, 20, 0, 41, 0), api.ErrShape}, bad[[]flight.Mark]{run(-41, 0, -20, 0, 0, 0, 20, 0, 40, 0), api.ErrShape}, bad[[]flight.Mark]{manyMarks(64), api.ErrShape})
	for i := range runR {
		moved := flagged(runR)
		moved[i].Position++
		others = append(others, bad[[]flight.Mark]{moved, api.ErrShape}, bad[[]flight.Mark]{flagged(moved, i), api.ErrShape}) // with a flag, too
	}
	checkErrors(t, "Polarization", func(a []any) []any {
		return polarized(a[0].([]flight.Mark), a[1].([]flight.Mark), a[2].(api.Interval))
	}, all(api.Interval{}), argumentOf(runR, badRuns()), argumentOf(runR, others), argumentOf(offset2, badOffsets))
}
