package pulse_test

import (
	"fmt"
	"math"
	"slices"
	"strings"
	"testing"

	"glideslope/api"
	"glideslope/pulse"
)

// The functions of this file return arguments with their errors.

// bad is an argument with its error.
type bad[T any] struct {
	x T
	e api.Errno
}

// argument is an argument of a function: a good one, and others with their errors.
type argument struct {
	good any
	bad  []bad[any]
}

func argumentOf[T any](good T, l []bad[T]) argument {
	a := argument{good: good}
	for _, x := range l {
		a.bad = append(a.bad, bad[any]{x.x, x.e})
	}
	return a
}

// checkErrors calls a function with each bad argument, all before it good, and those after it all good or all bad. It returns results of its type beside the error.
func checkErrors(t *testing.T, what string, call func(a []any) []any, nothing []any, arguments ...argument) {
	t.Helper()
	for i, a := range arguments {
		for _, x := range a.bad {
			for k := range 2 {
				l := make([]any, len(arguments))
				for j, b := range arguments {
					l[j] = b.good
					if j > i && k == 1 && len(b.bad) > 0 {
						l[j] = b.bad[0].x
					}
				}
				l[i] = x.x
				same(t, fmt.Sprintf("%s, argument %d: %v", what, i, x.x), call(l), append(slices.Clone(nothing), x.e))
			}
		}
	}
}

// badNumbers returns numbers that are not from low to high.
func badNumbers(low, high int) []bad[int] {
	var out []bad[int]
	for _, n := range []int{low - 1, high + 1, math.MinInt, math.MaxInt, 1 << 32, -1 << 32} {
		out = append(out, bad[int]{n, api.ErrRange})
	}
	return out
}

var badTick = badNumbers(0, 100000000)

// badTicks returns ticks, of which there may be so many, with their errors.
func badTicks(many int) []bad[[]int] {
	out := []bad[[]int]{
		{every(many+1, 0, 7), api.ErrMany}, {make([]int, many+1), api.ErrMany}, {slices.Repeat(ticks(-1), many+1), api.ErrMany}, {make([]int, 10000), api.ErrMany}, // before the ticks themselves
		{ticks(5, 5), api.ErrOrder}, {ticks(0, 0), api.ErrOrder}, {ticks(5, 4), api.ErrOrder}, {ticks(1, 2, 3, 3), api.ErrOrder}, {ticks(1, 3, 2, 4), api.ErrOrder}, {ticks(100000000, 0), api.ErrOrder}, {ticks(100000000, 100000000), api.ErrOrder},
		{ticks(3, 2, 100000001), api.ErrOrder}, {ticks(3, 2, -1), api.ErrOrder}, {ticks(3, -1, 2), api.ErrRange}, {ticks(3, 100000001, 2), api.ErrRange}, {ticks(-1, -1), api.ErrRange}, {ticks(0, -1), api.ErrRange}, // the first one decides, and of it first its range
	}
	for _, n := range badTick {
		out = append(out, bad[[]int]{ticks(n.x), n.e}, bad[[]int]{ticks(n.x, 7, 8), n.e}, bad[[]int]{ticks(7, n.x, 8), n.e}, bad[[]int]{ticks(7, 8, n.x), n.e})
	}
	last := every(many, 0, 1)
	last[many-1] = many - 2
	return append(out, bad[[]int]{last, api.ErrOrder})
}

// stationRanges has the ranges of all numbers of a station.
var stationRanges = [8][2]int{{1, 1000}, {0, 10000}, {0, 1000}, {0, 10000}, {0, 10000}, {1, 1000}, {1, 1000000}, {1, 1000000}}

// field returns a number of a station.
func field(s *pulse.Station, i int) *int {
	return [8]*int{&s.Spacing, &s.Delay, &s.Off, &s.Dead, &s.Echo, &s.Most, &s.Window, &s.Gap}[i]
}

func badStations() []bad[pulse.Station] {
	out := []bad[pulse.Station]{{pulse.Station{}, api.ErrRange}}
	for i, r := range stationRanges {
		for _, n := range badNumbers(r[0], r[1]) {
			for _, s := range []pulse.Station{stationD, least, most} {
				*field(&s, i) = n.x
				out = append(out, bad[pulse.Station]{s, n.e})
			}
		}
	}
	return out
}

var badReasons = []bad[string]{{"", api.ErrUnknown}, {"Dead", api.ErrUnknown}, {"dead ", api.ErrUnknown}, {"deads", api.ErrUnknown}, {"none", api.ErrUnknown}, {"ech", api.ErrUnknown}, {"load\n", api.ErrUnknown}, {"\xff", api.ErrUnknown}}

func badGates() []bad[pulse.Gate] {
	var out []bad[pulse.Gate]
	for _, n := range badNumbers(0, 1000000) {
		out = append(out, bad[pulse.Gate]{pulse.Gate{Distance: n.x}, n.e}, bad[pulse.Gate]{pulse.Gate{Distance: n.x, Width: -1, Memory: 129}, n.e})
	}
	for _, n := range badNumbers(0, 1000) {
		out = append(out, bad[pulse.Gate]{pulse.Gate{Width: n.x}, n.e})
	}
	for _, n := range badNumbers(0, 128) {
		out = append(out, bad[pulse.Gate]{pulse.Gate{Memory: n.x}, n.e})
	}
	return out
}

func badKinds() []bad[byte] {
	var out []bad[byte]
	for i := range 256 {
		if kind := byte(i); kind != 'X' && kind != 'Y' {
			out = append(out, bad[byte]{kind, api.ErrKind})
		}
	}
	return out
}

var badNames = []string{"", "9", "_a", "a b", "a-b", "\u00e9", "a\n", strings.Repeat("a", 25)}

// badMarkers returns single markers with their errors.
func badMarkers() []bad[pulse.Marker] {
	var out []bad[pulse.Marker]
	add := func(e api.Errno, change func(m *pulse.Marker)) {
		out = append(out, bad[pulse.Marker]{with(pulse.Marker{Name: "bad", From: -3, To: 3, Keys: ticks(1, 2)}, change), e})
	}
	for _, s := range badNames {
		add(api.ErrName, func(m *pulse.Marker) { m.Name = s })
		add(api.ErrName, func(m *pulse.Marker) { *m = pulse.Marker{Name: s, From: 1000001} })
	}
	for _, n := range badNumbers(-1000000, 1000000) {
		add(n.e, func(m *pulse.Marker) { m.From = n.x })
		add(n.e, func(m *pulse.Marker) { m.To = n.x })
		add(n.e, func(m *pulse.Marker) { m.To, m.Keys = n.x, nil }) // before the span and the keys
	}
	for _, x := range [][2]int{{0, 0}, {1, 0}, {-1, -1}, {1000000, 1000000}, {1000000, -1000000}, {-999999, -1000000}} {
		add(api.ErrSpan, func(m *pulse.Marker) { m.From, m.To = x[0], x[1] })
		add(api.ErrSpan, func(m *pulse.Marker) { m.From, m.To, m.Keys = x[0], x[1], nil }) // before the keys
	}
	add(api.ErrEmpty, func(m *pulse.Marker) { m.Keys = nil })
	add(api.ErrEmpty, func(m *pulse.Marker) { m.Keys = []int{} })
	add(api.ErrMany, func(m *pulse.Marker) { m.Keys = every(17, 1, 1) })
	add(api.ErrMany, func(m *pulse.Marker) { m.Keys = make([]int, 1000) })
	for _, n := range badNumbers(1, 1000000) {
		add(n.e, func(m *pulse.Marker) { m.Keys = ticks(n.x) })
		add(n.e, func(m *pulse.Marker) { m.Keys = append(every(15, 1, 1), n.x) })
		add(n.e, func(m *pulse.Marker) { m.Keys = append(ticks(n.x), every(15, 1, 1)...) })
	}
	return out
}

func badMarkerLists() []bad[[]pulse.Marker] {
	var out []bad[[]pulse.Marker]
	for _, x := range badMarkers() {
		out = append(out, bad[[]pulse.Marker]{[]pulse.Marker{x.x}, x.e}, bad[[]pulse.Marker]{[]pulse.Marker{outer, x.x}, x.e}, bad[[]pulse.Marker]{[]pulse.Marker{x.x, outer}, x.e})
	}
	return append(out,
		bad[[]pulse.Marker]{make([]pulse.Marker, 9), api.ErrMany},
		bad[[]pulse.Marker]{manyMarkers(9), api.ErrMany},
		bad[[]pulse.Marker]{[]pulse.Marker{outer, outer}, api.ErrTwice},
		bad[[]pulse.Marker]{[]pulse.Marker{outer, manyMarkers(1)[0], {Name: "outer", From: 1000001}}, api.ErrTwice}, // before the span
		bad[[]pulse.Marker]{[]pulse.Marker{outer, {Name: "w"}, outer}, api.ErrSpan},                                 // the first marker decides
		bad[[]pulse.Marker]{[]pulse.Marker{outer, {}, outer}, api.ErrName},
		bad[[]pulse.Marker]{[]pulse.Marker{outer, outer, {}}, api.ErrTwice},
		bad[[]pulse.Marker]{append(manyMarkers(7), pulse.Marker{Name: "n3"}), api.ErrTwice})
}

func badWays() []bad[[]int] {
	out := []bad[[]int]{{nil, api.ErrEmpty}, {[]int{}, api.ErrEmpty}, {make([]int, 257), api.ErrMany}, {slices.Repeat(ticks(1000001), 257), api.ErrMany}, {make([]int, 100000), api.ErrMany}}
	for _, n := range badNumbers(-1000000, 1000000) {
		out = append(out, bad[[]int]{ticks(n.x), n.e}, bad[[]int]{ticks(0, n.x), n.e}, bad[[]int]{ticks(n.x, 0), n.e}, bad[[]int]{append(make([]int, 255), n.x), n.e})
	}
	return out
}

// manyMarkers returns n markers of which no two have the same name.
func manyMarkers(n int) []pulse.Marker {
	var l []pulse.Marker
	for i := range n {
		l = append(l, pulse.Marker{Name: fmt.Sprintf("n%d", i), From: -i, To: 10 * (1 + i), Keys: every(1+i, 1, 1)})
	}
	return l
}
