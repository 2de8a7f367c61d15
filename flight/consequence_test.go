package flight_test

import (
	"math"
	"slices"
	"testing"

	"glideslope/api"
	"glideslope/flight"
)

// The tests of this file are those of P8.5, and of the rules that hold for all functions: P1, memory and determinism.

// has reports whether a number is in an interval.
func has(x api.Interval, n int) bool { return x.Low <= n && n <= x.High }

// holds reports whether an interval is within another one.
func holds(x, part api.Interval) bool { return has(x, part.Low) && has(x, part.High) }

// A place that is in the box of each fix is in the box in which they meet.
func TestPlaceIsMet(t *testing.T) {
	r := numbers{27}
	for range 1000 {
		place := [3]int{r.within(999000), r.within(999000), r.within(999000)}
		l := manyFixes(1 + r.below(8))
		for i := range l {
			for k, n := range place {
				l[i].Box[k] = interval(n-r.below(1000), n+r.below(1000))
			}
		}
		b, e := flight.Meet(l)
		same(t, "Meet", all(l, place, has(b[0], place[0]) && has(b[1], place[1]) && has(b[2], place[2]), e), all(l, place, true, api.OK))
		for _, f := range l {
			same(t, "Meet", all(l, holds(f.Box[0], b[0]) && holds(f.Box[1], b[1]) && holds(f.Box[2], b[2])), all(l, true))
		}
		// without one that is elsewhere all others meet; of two each one is elsewhere
		if odd := r.below(len(l)); len(l) >= 2 {
			l[odd].Box[r.below(3)] = exactly(1000000 * (1 - 2*r.below(2)))
			if len(l) == 2 {
				odd = 0
			}
			i, e := flight.Odd(l)
			same(t, "Odd", all(l, i, e), all(l, odd, api.OK))
		}
	}
}

// A receiver whose offset is one of its calibrations' gives true needles that contain what it was given.
func TestTrueIsGiven(t *testing.T) {
	r := numbers{29}
	for range 500 {
		off := interval(-50, 50)
		var l []flight.Calibration
		for range 1 + r.below(16) {
			applied := r.within(900000)
			l = append(l, flight.Calibration{Applied: applied, Read: applied + r.among(off)})
		}
		offset, e := flight.Offset(l)
		same(t, "Offset", all(l, holds(off, offset), e), all(l, true, api.OK))
		one := l[r.below(len(l))]
		given := r.run(64, 900000)
		read := flagged(given)
		for i := range read {
			read[i].Needle += one.Read - one.Applied
		}
		trues, _ := flight.True(read, offset)
		for i, x := range trues {
			same(t, "True", all(offset, given[i], x, has(x, given[i].Needle)), all(offset, given[i], x, true))
		}
	}
}

// readings returns what a receiver with an offset reads of given needles.
func (r *numbers) readings(given []flight.Mark, offset int) []flight.Mark {
	out := flagged(given)
	for i := range out {
		out[i].Needle += offset
	}
	return out
}

// The figures contain those of the true needles, whatever the offset within its interval is.
func TestFiguresContainTheTruth(t *testing.T) {
	r := numbers{31}
	for range 1500 {
		given, offset, zone := r.run(20, 40), r.offset(), r.interval(100)
		l := r.readings(given, r.among(offset))
		nothing := exactly(0)
		a, e := flight.Alignment(l, offset, zone)
		if e == api.OK {
			sum, n := 0, 0
			for _, m := range goodOf(given, zone) {
				sum, n = sum+m.Needle, n+1
			}
			same(t, "Alignment", all(l, offset, zone, a.Low*n <= sum && sum <= a.High*n), all(l, offset, zone, true))
			least := 1000
			for _, m := range goodOf(given, zone) {
				least = min(least, max(m.Needle, -m.Needle))
			}
			x, e := flight.Clearance(l, offset, zone)
			same(t, "Clearance", all(l, offset, zone, has(x, least), e), all(l, offset, zone, true, api.OK))
			same(t, "Clearance", cleared(given, nothing, zone), all(exactly(least), api.OK))
		}
		other := flagged(given)
		for i := range other {
			other[i].Needle, other[i].Flag = other[i].Needle+r.within(9), r.is(6)
		}
		x, e := flight.Polarization(l, r.readings(other, r.among(offset)), offset)
		if e == api.OK {
			truth, _ := flight.Polarization(given, other, nothing)
			same(t, "Polarization", all(given, other, offset, holds(x, truth), truth.Low == truth.High), all(given, other, offset, true, true))
		}
	}
}

// The width of a needle that only rises is between its ends.
func TestWidthContainsTheTruth(t *testing.T) {
	r := numbers{33}
	found := 0
	for range 2000 {
		given := r.run(20, 0)
		needle := -r.below(60)
		for i := range given {
			given[i].Needle = needle
			needle += 1 + r.below(15)
		}
		offset, deflection := r.offset(), 1+r.below(30)
		x, e := flight.Width(r.readings(given, r.among(offset)), offset, deflection)
		if e != api.OK {
			continue
		}
		found++
		// the true needle passes a level at the first mark that has it
		passes := func(level int) int {
			good := goodOf(given, everywhere)
			return good[slices.IndexFunc(good, func(m flight.Mark) bool { return m.Needle >= level })].Position
		}
		width := passes(deflection) - passes(-deflection)
		same(t, "Width", all(given, offset, deflection, has(x, width)), all(given, offset, deflection, true))
		same(t, "Width", wide(given, exactly(0), deflection), all(exactly(width), api.OK))
	}
	same(t, "are there any", all(found > 500), all(true))
}

// With a narrower offset no figure is wider, and what was known of a mark stays known.
func TestNarrowerOffset(t *testing.T) {
	r := numbers{35}
	for range 1500 {
		l, offset, zone := r.rising(20, 9), r.offset(), r.interval(100)
		narrow := r.part(offset)
		other := r.readings(l, r.within(5))
		for what, f := range map[string]func(offset api.Interval) (api.Interval, api.Errno){
			"Alignment":    func(o api.Interval) (api.Interval, api.Errno) { return flight.Alignment(l, o, zone) },
			"Edge":         func(o api.Interval) (api.Interval, api.Errno) { return flight.Edge(l, o, 5) },
			"Width":        func(o api.Interval) (api.Interval, api.Errno) { return flight.Width(l, o, 10) },
			"Clearance":    func(o api.Interval) (api.Interval, api.Errno) { return flight.Clearance(l, o, zone) },
			"Polarization": func(o api.Interval) (api.Interval, api.Errno) { return flight.Polarization(l, other, o) },
		} {
			if x, e := f(offset); e == api.OK {
				y, e := f(narrow)
				same(t, what, all(l, offset, narrow, x, y, holds(x, y), e), all(l, offset, narrow, x, y, true, api.OK))
			}
		}
		zones := r.zones(30)
		sides, _ := flight.Outside(l, offset, zones)
		again, _ := flight.Outside(l, narrow, zones)
		for i, side := range sides {
			same(t, "Outside", all(l, offset, narrow, zones, i, side == 0 || side == again[i]), all(l, offset, narrow, zones, i, true))
		}
	}
}

// A mark that is outside is so for each true needle.
func TestOutsideForEach(t *testing.T) {
	r := numbers{37}
	for range 300 {
		l, offset, zones := r.run(20, 40), r.offset(), r.zones(30)
		sides, e := flight.Outside(l, offset, zones)
		if e != api.OK {
			continue
		}
		spans, _ := flight.Structure(l, offset, zones)
		for _, off := range eachOf(offset) {
			exact, _ := flight.Outside(l, exactly(off), zones)
			for i, side := range sides {
				same(t, "Outside", all(l, offset, off, i, side == 0 || exact[i] == side), all(l, offset, off, i, true))
			}
		}
		for i, m := range l {
			in := 0
			for k, z := range zones {
				if has(z.At, m.Position) && slices.ContainsFunc(spans[k], func(s api.Span) bool { return s.From <= i && i < s.To }) {
					in++
				}
			}
			same(t, "Structure", all(l, offset, zones, i, in == 1), all(l, offset, zones, i, sides[i] == 1))
		}
	}
}

// A report that passes does so for each number of its figures, and with wider tolerances, too.
func TestPassesForEach(t *testing.T) {
	r := numbers{39}
	counts := map[int]int{}
	for range 1500 {
		figures, tolerances := r.report()
		category := 1 + r.below(3)
		result, e := flight.Result(figures, tolerances, category)
		same(t, "Result", all(e), all(api.OK))
		counts[result]++
		exact := slices.Clone(figures)
		for i := range exact {
			exact[i].Value = exactly(r.among(exact[i].Value))
		}
		wider := slices.Clone(tolerances)
		for i := range wider {
			for k := range wider[i].Within {
				wider[i].Within[k].Low -= r.below(5)
				wider[i].Within[k].High += r.below(5)
			}
		}
		if result != 0 {
			same(t, "Result of a number of each figure", resulted(exact, tolerances, category), all(result, api.OK))
		}
		if result == 1 {
			same(t, "Result with wider tolerances", resulted(figures, wider, category), all(1, api.OK))
		}
		class, _ := flight.Class(figures, tolerances)
		again, _ := flight.Class(figures, wider)
		same(t, "Class with wider tolerances", all(figures, tolerances, wider, again >= class), all(figures, tolerances, wider, true))
		reasons, _ := flight.Reasons(figures, tolerances, category)
		same(t, "Reasons", all(figures, tolerances, len(reasons) == 0), all(figures, tolerances, result == 1))
	}
	same(t, "are there all kinds", all(counts[-1] > 100, counts[0] > 100, counts[1] > 100), all(true, true, true))
}

// No order ends before the best one, nor before the bound; a further window never makes the best end later.
func TestNoneEndsBefore(t *testing.T) {
	r := numbers{41}
	for range 400 {
		l := r.flights(5, 12)
		order, end, e := flight.Best(l)
		bound, boundless := flight.Bound(l)
		if e == api.OK {
			same(t, "Bound", all(l, bound <= end, boundless), all(l, true, api.OK))
			starts, _ := flight.Starts(l, order)
			last := 0
			for _, i := range order {
				same(t, "Starts", all(l, order, starts[i] >= last), all(l, order, true))
				last = starts[i] + l[i].Time
				inWindow := func(w api.Span) bool { return starts[i] >= w.From && last <= w.To }
				same(t, "Starts", all(l, order, slices.ContainsFunc(l[i].Windows, inWindow)), all(l, order, true))
			}
			same(t, "Best", all(l, order, last), all(l, order, end))
		}
		for range 20 {
			order := r.order(len(l))
			starts, possible := flight.Starts(l, order)
			if possible != api.OK || len(l) == 0 {
				continue
			}
			last := order[len(order)-1]
			over := starts[last] + l[last].Time
			same(t, "Best", all(l, order, e, end <= over, bound <= over), all(l, order, api.OK, true, true))
		}
		for i, f := range l {
			if len(f.Windows) == 4 {
				continue
			}
			from := f.Windows[len(f.Windows)-1].To + 1 + r.below(9)
			more := slices.Clone(l)
			more[i].Windows = append(slices.Clone(f.Windows), span(from, from+1+r.below(50)))
			_, again, further := flight.Best(more)
			same(t, "Best with a further window", all(l, more, e != api.OK || further == api.OK && again <= end), all(l, more, true))
			if first := f.Windows[0].From; first > 3 {
				more[i].Windows = append([]api.Span{span(r.below(first-1), first-1)}, f.Windows...)
				_, again, further = flight.Best(more)
				same(t, "Best with an earlier window", all(l, more, e != api.OK || further == api.OK && again <= end), all(l, more, true))
			}
		}
	}
}

// P1: no function panics, whatever its arguments are.
func TestNoPanics(t *testing.T) {
	ints := []int{math.MinInt, -1000000000, -1, 0, 1, 3, 100000, 1000001, math.MaxInt}
	for _, a := range ints {
		for _, b := range ints {
			x, y := interval(a, b), interval(b, a)
			runs := [][]flight.Mark{nil, runR, run(a, b), run(0, a, 5, b), run(a, 0, b, 0), {{Position: 1, Needle: a, Flag: true}}, make([]flight.Mark, 10000), manyMarks(64)}
			zones := [][]flight.Zone{nil, {{At: x, Limit: a}}, {zone(-50, 50, b), {At: y, Limit: 5}}, {zone(-50, 0, 5), zone(1, 50, 5)}, make([]flight.Zone, 1000)}
			noPanic(t, "fixes and receivers", func() {
				for _, l := range [][]flight.Fix{nil, {{}}, {{Name: "a", Box: [3]api.Interval{x, y, x}}}, {fix("a", a, b, b, a, 0, 0), fix("b", 0, 0, 0, 0, a, a)}, make([]flight.Fix, 10000), conflict1, manyFixes(8)} {
					flight.Meet(l)
					flight.Odd(l)
				}
				flight.Offset([]flight.Calibration{{Applied: a, Read: b}})
				flight.Offset([]flight.Calibration{{Applied: 1, Read: 2}, {Applied: b, Read: a}})
			})
			for i, l := range runs {
				noPanic(t, "runs", func() {
					flight.CheckRun(l)
					flight.Print(l)
					for _, offset := range []api.Interval{x, y, offset2, interval(-2000000, 2000000)} {
						flight.True(l, offset)
						flight.Alignment(l, offset, y)
						flight.Clearance(l, offset, x)
						flight.Alignment(l, offset, everywhere)
						flight.Clearance(l, offset, everywhere)
						flight.Edge(l, offset, a)
						flight.Width(l, offset, b)
						flight.Polarization(l, runs[len(runs)-1-i], offset)
						flight.Polarization(l, l, offset)
						for _, z := range zones {
							flight.Outside(l, offset, z)
							flight.Structure(l, offset, z)
						}
					}
				})
			}
			noPanic(t, "zones, reports and flights", func() {
				for _, z := range zones {
					flight.CheckZones(z)
				}
				within := [3]api.Interval{x, exactly(a), y}
				for _, figures := range [][]flight.Figure{nil, {{}}, {{Name: "a", Value: x}}, {{Name: "a", Value: interval(0, 1)}, {Name: "a", Value: y}}, {{Name: "a"}}, make([]flight.Figure, 1000)} {
					for _, tolerances := range [][]flight.Tolerance{nil, {{}}, {{Name: "a", Within: within}}, {{Name: "b", Within: within}}, {{Name: "a"}}, make([]flight.Tolerance, 1000)} {
						flight.CheckReport(figures, tolerances)
						flight.Result(figures, tolerances, a)
						flight.Result(figures, tolerances, 1)
						flight.Reasons(figures, tolerances, b)
						flight.Reasons(figures, tolerances, 3)
						flight.Class(figures, tolerances)
					}
				}
				for _, l := range [][]flight.Flight{nil, {{}}, {flightOf("a", a, 0, b)}, {flightOf("a", 1, a, b)}, {flightOf("a", 5, 0, 9), flightOf("b", b, a, 9)}, {flightOf("a", 5, 0, 9), flightOf("b", 5, 0, 9)}, make([]flight.Flight, 1000), flights9} {
					flight.CheckFlights(l)
					flight.Best(l)
					flight.Bound(l)
					for _, order := range [][]int{nil, {a}, {a, b}, {b, 0}, {0, 1}, {1, 0}, make([]int, 1000)} {
						flight.Starts(l, order)
					}
				}
			})
		}
	}
	r := numbers{43}
	for range 5000 {
		s := make([]byte, r.below(60))
		for i := range s {
			s[i] = []byte{' ', ' ', '\n', '-', '0', '1', byte(r.below(256))}[r.below(7)]
		}
		noPanic(t, "Parse", func() {
			flight.Parse(string(s))
			flight.Parse("mark 1 2" + string(s))
		})
	}
}

// Arguments stay as they are, and a result that is changed changes neither an argument nor a later result.
func TestMemory(t *testing.T) {
	// what is behind a list is not written to
	fixes, marks, other := append(manyFixes(8), manyFixes(5)...)[:7], manyMarks(64)[:20], flagged(manyMarks(64), 3, 5)[:20]
	zones := append(make([]flight.Zone, 0, 8), zone(-100, -50, 20), zone(-40, 100, 40))
	figures, tolerances := manyFigures(16)
	figures, tolerances = figures[:14], tolerances[:12]
	flights, order := manyFlights(8)[:6], append(make([]int, 0, 8), 5, 3, 1, 0, 2, 4)
	kept := func() string {
		out := shown(fixes[:13], marks[:64], other[:64], zones[:8], figures[:16], tolerances[:16], flights[:8], order[:8])
		for _, f := range flights[:8] {
			out += shown(f.Windows[:cap(f.Windows)])
		}
		return out
	}
	before := kept()
	once := func() string {
		trues, _ := flight.True(marks, offset2)
		sides, _ := flight.Outside(marks, offset2, zones)
		spans, _ := flight.Structure(marks, offset2, zones)
		reasons, _ := flight.Reasons(figures, tolerances, 2)
		starts, _ := flight.Starts(flights, order)
		first, end, _ := flight.Best(flights)
		text, _ := flight.Print(marks)
		again, _, _ := flight.Parse(text)
		same(t, "are there results", all(len(trues), len(sides), len(spans), len(spans[0]) > 0, len(spans[1]) > 0, len(reasons) > 0, len(starts), len(first), len(again)), all(20, 20, 2, true, true, true, 6, 6, 20))
		out := shown(trues, sides, spans, reasons, starts, first, end, text, again, meets(fixes), odd(fixes), polarized(marks, other, offset2), classed(figures, tolerances), bounded(flights), wide(marks, offset2, 5))
		clear(trues[:cap(trues)])
		clear(sides[:cap(sides)])
		for _, l := range spans {
			clear(l[:cap(l)])
		}
		clear(spans[:cap(spans)])
		clear(reasons[:cap(reasons)])
		clear(starts[:cap(starts)])
		clear(first[:cap(first)])
		clear(again[:cap(again)])
		return out
	}
	want := once()
	for range 5 {
		same(t, "results again", all(once()), all(want))
	}
	same(t, "arguments", all(kept()), all(before))
}

// Results do not depend on the order of the maps in which names are found.
func TestDeterminism(t *testing.T) {
	figures, tolerances := manyFigures(16)
	var first string
	for i := range 50 {
		s := shown(flight.CheckReport(append(figures[:15:15], figure("n3", 0, 0)), nil), reasoned(figures, tolerances, 2), resulted(figures, tolerances, 3), classed(figures, tolerances), flight.CheckFlights(append(manyFlights(7), flightOf("n5", 0))))
		if i == 0 {
			first = s
		}
		same(t, "results", all(s), all(first))
	}
}
