package flight_test

import (
	"fmt"
	"math"
	"slices"
	"strings"
	"testing"

	"glideslope/api"
	"glideslope/flight"
)

// The functions of this file return arguments with their errors.

// bad is an argument with its error.
type bad[T any] struct {
	x T
	e api.Errno
}

// argument is an argument of a function: a good one, and others with their errors.
type argument struct {
	good any
	bad  []bad[any]
}

func argumentOf[T any](good T, l []bad[T]) argument {
	a := argument{good: good}
	for _, x := range l {
		a.bad = append(a.bad, bad[any]{x.x, x.e})
	}
	return a
}

// checkErrors calls a function with each bad argument, all before it good, and those after it all good or all bad. It returns results of its type beside the error.
func checkErrors(t *testing.T, what string, call func(a []any) []any, nothing []any, arguments ...argument) {
	t.Helper()
	for i, a := range arguments {
		for _, x := range a.bad {
			for k := range 2 {
				l := make([]any, len(arguments))
				for j, b := range arguments {
					l[j] = b.good
					if j > i && k == 1 && len(b.bad) > 0 {
						l[j] = b.bad[0].x
					}
				}
				l[i] = x.x
				same(t, fmt.Sprintf("%s, argument %d: %v", what, i, x.x), call(l), append(slices.Clone(nothing), x.e))
			}
		}
	}
}

// badNumbers returns numbers that are not from low to high.
func badNumbers(low, high int) []bad[int] {
	var out []bad[int]
	for _, n := range []int{low - 1, high + 1, math.MinInt, math.MaxInt, 1 << 32, -1 << 32} {
		out = append(out, bad[int]{n, api.ErrRange})
	}
	return out
}

// badIntervals returns intervals that do not lie from -most to most, or have no number.
func badIntervals(most int) []bad[api.Interval] {
	out := []bad[api.Interval]{{interval(1, 0), api.ErrOrder}, {interval(most, -most), api.ErrOrder}, {interval(-most+1, -most), api.ErrOrder}, {interval(most, most-1), api.ErrOrder}}
	for _, n := range badNumbers(-most, most) {
		for _, other := range indices(-most, 0, most) {
			out = append(out, bad[api.Interval]{interval(n.x, other), n.e}, bad[api.Interval]{interval(other, n.x), n.e})
		}
		out = append(out, bad[api.Interval]{exactly(n.x), n.e})
	}
	return out
}

var (
	badOffsets     = badIntervals(2000000)
	badZones       = badIntervals(100000)
	badLevels      = badNumbers(-1000000, 1000000)
	badDeflections = badNumbers(1, 1000000)
	badCategories  = badNumbers(1, 3)
	badNames       = []string{"", "9", "_a", "a b", "a-b", "\u00e9", "a\n", strings.Repeat("a", 25)}
)

// manyFixes returns n good fixes.
func manyFixes(n int) []flight.Fix {
	var l []flight.Fix
	for i := range n {
		l = append(l, fix(fmt.Sprintf("n%d", i), -i, i, -1000000, 1000000, 5, 5))
	}
	return l
}

func badFixes() []bad[[]flight.Fix] {
	far := fix("far", 1000001, 0, 0, 0, 0, 0)
	out := []bad[[]flight.Fix]{
		{nil, api.ErrEmpty}, {[]flight.Fix{}, api.ErrEmpty}, {manyFixes(9), api.ErrMany}, {make([]flight.Fix, 9), api.ErrMany}, {make([]flight.Fix, 10000), api.ErrMany},
		{append(manyFixes(7), fix("n3", 0, 1, 0, 1, 0, 1)), api.ErrTwice}, {append(manyFixes(1), fix("n0", 1, 0, 0, 1, 0, 1)), api.ErrTwice}, // before the box
		{append(manyFixes(1), far, far), api.ErrRange}, {append(manyFixes(1), flight.Fix{}, manyFixes(1)[0]), api.ErrName}, {append(manyFixes(1), manyFixes(1)[0], flight.Fix{}), api.ErrTwice}, // the first fix decides
		{[]flight.Fix{fix("a", 1, 0, 0, 1000001, 0, 0)}, api.ErrOrder}, {[]flight.Fix{fix("a", 0, 0, 1, 0, 0, 1000001)}, api.ErrOrder}, {[]flight.Fix{fix("a", 0, 0, 0, 1000001, 1, 0)}, api.ErrRange}, // the first interval decides
	}
	add := func(e api.Errno, f flight.Fix) {
		out = append(out, bad[[]flight.Fix]{[]flight.Fix{f}, e}, bad[[]flight.Fix]{append(manyFixes(7), f), e}, bad[[]flight.Fix]{append([]flight.Fix{f}, manyFixes(7)...), e})
	}
	for _, s := range badNames {
		add(api.ErrName, fix(s, 0, 0, 0, 0, 0, 0))
		add(api.ErrName, fix(s, 1, 0, 0, 1000001, 0, 0)) // before the box
	}
	for _, x := range badIntervals(1000000) {
		for k := range 3 {
			add(x.e, with(fix("a", 0, 0, 0, 0, 0, 0), func(f *flight.Fix) { f.Box[k] = x.x }))
		}
	}
	return out
}

func badCalibrations() []bad[[]flight.Calibration] {
	good := make([]flight.Calibration, 15)
	out := []bad[[]flight.Calibration]{{nil, api.ErrEmpty}, {[]flight.Calibration{}, api.ErrEmpty}, {make([]flight.Calibration, 17), api.ErrMany}, {slices.Repeat([]flight.Calibration{{Applied: 1000001}}, 17), api.ErrMany}}
	for _, n := range badLevels {
		for _, c := range []flight.Calibration{{Applied: n.x}, {Read: n.x}, {Applied: n.x, Read: n.x}} {
			out = append(out, bad[[]flight.Calibration]{[]flight.Calibration{c}, n.e}, bad[[]flight.Calibration]{append(slices.Clone(good), c), n.e}, bad[[]flight.Calibration]{append([]flight.Calibration{c}, good...), n.e})
		}
	}
	return out
}

// manyMarks returns a run of n marks.
func manyMarks(n int) []flight.Mark {
	var l []flight.Mark
	for i := range n {
		l = append(l, flight.Mark{Position: 10*i - 100, Needle: 7 * i, Flag: i%5 == 3})
	}
	return l
}

func badRuns() []bad[[]flight.Mark] {
	out := []bad[[]flight.Mark]{
		{nil, api.ErrEmpty}, {[]flight.Mark{}, api.ErrEmpty}, {manyMarks(65), api.ErrMany}, {make([]flight.Mark, 65), api.ErrMany}, {make([]flight.Mark, 10000), api.ErrMany},
		{run(5, 0, 5, 0), api.ErrOrder}, {run(5, 0, 4, 0), api.ErrOrder}, {run(0, 0, 0, 0), api.ErrOrder}, {run(-100000, 0, -100000, 0), api.ErrOrder}, {run(100000, 0, -100000, 0), api.ErrOrder}, {run(1, 0, 2, 0, 3, 0, 3, 0), api.ErrOrder}, {run(1, 0, 3, 0, 2, 0, 4, 0), api.ErrOrder},
		{run(5, 0, 4, 0, 100001, 0), api.ErrOrder}, {run(5, 0, 100001, 0, 4, 0), api.ErrRange}, {run(5, 0, 4, 1000001), api.ErrRange}, {run(5, 0, -100001, 0), api.ErrRange}, // the first mark decides, and of it first its ranges
		{flagged(run(5, 0, 5, 0), 0), api.ErrOrder}, {flagged(run(5, 0, 6, 1000001), 1), api.ErrRange}, {flagged(run(100001, 0), 0), api.ErrRange}, // a flag is no excuse
		{append(manyMarks(63), flight.Mark{Position: 520}), api.ErrOrder},
	}
	for _, n := range badNumbers(-100000, 100000) {
		out = append(out, bad[[]flight.Mark]{run(n.x, 0), n.e}, bad[[]flight.Mark]{run(-5, 0, n.x, 0, 5, 0), n.e}, bad[[]flight.Mark]{append(manyMarks(63), flight.Mark{Position: n.x}), n.e})
	}
	for _, n := range badLevels {
		out = append(out, bad[[]flight.Mark]{run(0, n.x), n.e}, bad[[]flight.Mark]{run(-5, 0, 0, n.x, 5, 0), n.e}, bad[[]flight.Mark]{append(manyMarks(63), flight.Mark{Position: 1000, Needle: n.x}), n.e})
	}
	return out
}

func badZoneLists() []bad[[]flight.Zone] {
	out := []bad[[]flight.Zone]{
		{nil, api.ErrEmpty}, {[]flight.Zone{}, api.ErrEmpty}, {[]flight.Zone{zone(0, 1, 0), zone(2, 3, 0), zone(4, 5, 0), zone(6, 7, 0), zone(8, 9, 0)}, api.ErrMany}, {make([]flight.Zone, 5), api.ErrMany}, {make([]flight.Zone, 1000), api.ErrMany},
		{[]flight.Zone{zone(0, 1, 0), zone(1, 2, 0)}, api.ErrOverlap}, {[]flight.Zone{zone(0, 1, 0), zone(0, 1, 0)}, api.ErrOverlap}, {[]flight.Zone{zone(5, 9, 0), zone(1, 2, 0)}, api.ErrOverlap}, {[]flight.Zone{zone(5, 9, 0), zone(6, 7, 0)}, api.ErrOverlap}, {[]flight.Zone{zone(-100000, 100000, 0), zone(100000, 100000, 0)}, api.ErrOverlap},
		{[]flight.Zone{zone(0, 1, 0), zone(2, 3, 0), zone(4, 4, 0), zone(4, 5, 0)}, api.ErrOverlap}, {[]flight.Zone{zone(5, 9, 0), zone(10, 20, 0), zone(6, 7, 0)}, api.ErrOverlap},
		{[]flight.Zone{zone(0, 5, 0), zone(5, 6, -1)}, api.ErrOverlap}, {[]flight.Zone{zone(0, 5, 0), zone(5, 4, -1)}, api.ErrOrder}, {[]flight.Zone{zone(0, 5, 0), zone(5, 100001, -1)}, api.ErrRange}, {[]flight.Zone{zone(1, 0, -1)}, api.ErrOrder}, // the order of the errors
		{[]flight.Zone{zone(0, 5, -1), zone(5, 6, 0)}, api.ErrRange}, {[]flight.Zone{zone(0, 5, 0), zone(5, 6, 0), zone(7, 8, -1)}, api.ErrOverlap}, // the first zone decides
	}
	for _, x := range badZones {
		for _, limit := range indices(0, -1) {
			z := flight.Zone{At: x.x, Limit: limit}
			out = append(out, bad[[]flight.Zone]{[]flight.Zone{z}, x.e}, bad[[]flight.Zone]{[]flight.Zone{zone(-100000, -100000, 0), z}, x.e})
		}
	}
	for _, n := range badNumbers(0, 1000000) {
		out = append(out, bad[[]flight.Zone]{[]flight.Zone{zone(0, 1, n.x)}, n.e}, bad[[]flight.Zone]{[]flight.Zone{zone(0, 1, 0), zone(2, 3, 0), zone(4, 5, 0), zone(6, 7, n.x)}, n.e})
	}
	return out
}

// manyFigures returns n figures, and a tolerance of each one.
func manyFigures(n int) ([]flight.Figure, []flight.Tolerance) {
	var figures []flight.Figure
	var tolerances []flight.Tolerance
	for i := range n {
		name := fmt.Sprintf("n%d", i)
		figures = append(figures, figure(name, -i, i))
		tolerances = append(tolerances, tolerance(name, -20, 20, -i, 10, 0, 5))
	}
	return figures, tolerances
}

func badFigures() []bad[[]flight.Figure] {
	seventeen, _ := manyFigures(17)
	seven := seventeen[:7:7]
	out := []bad[[]flight.Figure]{
		{seventeen, api.ErrMany}, {make([]flight.Figure, 17), api.ErrMany}, {make([]flight.Figure, 10000), api.ErrMany},
		{append(seven, figure("n3", 0, 0)), api.ErrTwice}, {append(seven, figure("n3", 1, 0)), api.ErrTwice}, {append(seven, figure("a", 1, 0), figure("n3", 0, 0)), api.ErrOrder}, {append(seven, figure("n3", 0, 0), figure("9", 0, 0)), api.ErrTwice},
	}
	add := func(e api.Errno, f flight.Figure) {
		out = append(out, bad[[]flight.Figure]{[]flight.Figure{f}, e}, bad[[]flight.Figure]{append(seven, f), e}, bad[[]flight.Figure]{append([]flight.Figure{f}, seven...), e})
	}
	for _, s := range badNames {
		add(api.ErrName, figure(s, 0, 0))
		add(api.ErrName, figure(s, 1, 0))
	}
	for _, x := range badIntervals(1000000) {
		add(x.e, flight.Figure{Name: "a", Value: x.x})
	}
	return out
}

// badTolerances returns tolerances of figures8 with their errors.
func badTolerances() []bad[[]flight.Tolerance] {
	good, other := tolerances8[0], tolerances8[1]
	_, seventeen := manyFigures(17)
	out := []bad[[]flight.Tolerance]{
		{seventeen, api.ErrMany}, {slices.Repeat([]flight.Tolerance{good}, 17), api.ErrMany}, {make([]flight.Tolerance, 10000), api.ErrMany},
		{[]flight.Tolerance{good, good}, api.ErrTwice}, {[]flight.Tolerance{other, good, other}, api.ErrTwice}, {[]flight.Tolerance{good, tolerance("alignment", 1, 0, 0, 0, 0, 0)}, api.ErrTwice}, // before the intervals
		{[]flight.Tolerance{good, good, {Name: "angle"}}, api.ErrTwice}, {[]flight.Tolerance{good, {Name: "angle"}, good}, api.ErrUnknown}, {[]flight.Tolerance{{Name: "angle"}, {Name: "angle"}}, api.ErrUnknown}, {[]flight.Tolerance{good, tolerance("width", 1, 0, 0, 0, 0, 0), good}, api.ErrOrder}, // the first one decides
		{[]flight.Tolerance{tolerance("width", 1, 0, 0, 1000001, 0, 0)}, api.ErrOrder}, {[]flight.Tolerance{tolerance("width", 0, 0, 0, 1000001, 1, 0)}, api.ErrRange}, // the first interval decides
	}
	for _, s := range append(badNames, "angle", "Width", "n0", "width ") {
		out = append(out, bad[[]flight.Tolerance]{[]flight.Tolerance{{Name: s}}, api.ErrUnknown}, bad[[]flight.Tolerance]{[]flight.Tolerance{good, tolerance(s, 1, 0, 0, 0, 0, 0)}, api.ErrUnknown})
	}
	for _, x := range badIntervals(1000000) {
		for k := range 3 {
			changed := with(other, func(x1 *flight.Tolerance) { x1.Within[k] = x.x })
			out = append(out, bad[[]flight.Tolerance]{[]flight.Tolerance{changed}, x.e}, bad[[]flight.Tolerance]{[]flight.Tolerance{good, changed}, x.e}, bad[[]flight.Tolerance]{[]flight.Tolerance{changed, good}, x.e})
		}
	}
	return out
}

// manyFlights returns n flights.
func manyFlights(n int) []flight.Flight {
	var l []flight.Flight
	for i := range n {
		l = append(l, flightOf(fmt.Sprintf("n%d", i), 1+i, 0, 90, 100, 200+10*i))
	}
	return l
}

func badFlights() []bad[[]flight.Flight] {
	out := []bad[[]flight.Flight]{
		{manyFlights(9), api.ErrMany}, {make([]flight.Flight, 9), api.ErrMany}, {make([]flight.Flight, 10000), api.ErrMany},
		{append(manyFlights(7), flightOf("n3", 1, 0, 5)), api.ErrTwice}, {append(manyFlights(1), flightOf("n0", 0)), api.ErrTwice}, {append(manyFlights(1), flightOf("a", 0), flightOf("n0", 1, 0, 5)), api.ErrRange}, {append(manyFlights(1), flightOf("n0", 1, 0, 5), flight.Flight{}), api.ErrTwice},
	}
	add := func(e api.Errno, f flight.Flight) {
		out = append(out, bad[[]flight.Flight]{[]flight.Flight{f}, e}, bad[[]flight.Flight]{append(manyFlights(7), f), e}, bad[[]flight.Flight]{append([]flight.Flight{f}, manyFlights(7)...), e})
	}
	for _, s := range badNames {
		add(api.ErrName, flightOf(s, 1, 0, 5))
		add(api.ErrName, flightOf(s, 0, 5, 0))
	}
	for _, n := range badNumbers(1, 1000) {
		add(n.e, flightOf("a", n.x, 0, 5))
		add(n.e, flightOf("a", n.x)) // before the windows
	}
	add(api.ErrEmpty, flightOf("a", 1))
	add(api.ErrEmpty, flight.Flight{Name: "a", Time: 1, Windows: []api.Span{}})
	add(api.ErrMany, flightOf("a", 1, 0, 1, 2, 3, 4, 5, 6, 7, 8, 9))
	add(api.ErrMany, flight.Flight{Name: "a", Time: 1, Windows: make([]api.Span, 5)})
	add(api.ErrMany, flight.Flight{Name: "a", Time: 1, Windows: make([]api.Span, 1000)})
	for _, x := range [][2]int{{-1, 5}, {0, 0}, {5, 5}, {5, 4}, {100000, 100000}, {99999, 100001}, {0, 100001}, {100001, 100002}, {100000, 100001}, {-5, -1}, {-1, -1}, {5, -1}, {math.MinInt, 5}, {0, math.MaxInt}, {math.MaxInt, math.MinInt}, {math.MinInt, math.MaxInt}, {math.MaxInt, 5}, {5, math.MinInt}} {
		add(api.ErrSpan, flightOf("a", 1, x[0], x[1]))
		add(api.ErrSpan, flightOf("a", 1, 0, 1, 2, 3, 4, 5, x[0], x[1]))
		add(api.ErrSpan, flightOf("a", 1, x[0], x[1], 0, 1))
	}
	add(api.ErrOverlap, flightOf("a", 1, 0, 5, 5, 9)) // as near as this they are one
	add(api.ErrOverlap, flightOf("a", 1, 0, 5, 4, 9))
	add(api.ErrOverlap, flightOf("a", 1, 0, 5, 0, 5))
	add(api.ErrOverlap, flightOf("a", 1, 10, 15, 0, 5))
	add(api.ErrOverlap, flightOf("a", 1, 0, 5, 6, 9, 10, 12, 12, 13))
	add(api.ErrOverlap, flightOf("a", 1, 10, 15, 20, 25, 12, 14))
	add(api.ErrSpan, flightOf("a", 1, 10, 15, 15, 15)) // of a window first its span
	add(api.ErrSpan, flightOf("a", 1, 10, 15, 9, 100001))
	add(api.ErrOverlap, flightOf("a", 1, 10, 15, 15, 16, 5, 5)) // the first window decides
	add(api.ErrSpan, flightOf("a", 1, 10, 15, 16, 16, 15, 17))
	return out
}

// badOrders returns orders of two flights with their errors.
func badOrders() []bad[[]int] {
	out := []bad[[]int]{
		{nil, api.ErrShape}, {indices(0), api.ErrShape}, {indices(0, 1, 2), api.ErrShape}, {indices(0, 1, 1), api.ErrShape}, {indices(7), api.ErrShape}, {make([]int, 10000), api.ErrShape},
		{indices(0, 0), api.ErrTwice}, {indices(1, 1), api.ErrTwice},
	}
	for _, n := range indices(-1, 2, math.MinInt, math.MaxInt, 1<<32) {
		for _, l := range [][]int{{0, n}, {n, 0}, {1, n}, {n, 1}, {n, n}} {
			out = append(out, bad[[]int]{l, api.ErrUnknown})
		}
	}
	return out
}
