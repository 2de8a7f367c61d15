package area_test

import (
	"fmt"
	"math"
	"slices"
	"strings"
	"testing"

	"glideslope/api"
	"glideslope/area"
)

// The functions of this file return arguments with their errors.

// bad is an argument with its error.
type bad[T any] struct {
	x T
	e api.Errno
}

// argument is an argument of a function: a good one, and others with their errors.
type argument struct {
	good any
	bad  []bad[any]
}

func argumentOf[T any](good T, l []bad[T]) argument {
	a := argument{good: good}
	for _, x := range l {
		a.bad = append(a.bad, bad[any]{x.x, x.e})
	}
	return a
}

// checkErrors calls a function with each bad argument, all before it good, and those after it all good or all bad. It returns results of its type beside the error.
func checkErrors(t *testing.T, what string, call func(a []any) []any, nothing []any, arguments ...argument) {
	t.Helper()
	for i, a := range arguments {
		for _, x := range a.bad {
			for k := range 2 {
				l := make([]any, len(arguments))
				for j, b := range arguments {
					l[j] = b.good
					if j > i && k == 1 && len(b.bad) > 0 {
						l[j] = b.bad[0].x
					}
				}
				l[i] = x.x
				same(t, fmt.Sprintf("%s, argument %d: %v", what, i, x.x), call(l), append(slices.Clone(nothing), x.e))
			}
		}
	}
}

// within returns bad elements as the first and as the last one of a list of good ones.
func within[T any](good T, l []bad[T]) []bad[[]T] {
	var out []bad[[]T]
	for _, x := range l {
		out = append(out, bad[[]T]{[]T{x.x}, x.e}, bad[[]T]{[]T{good, x.x}, x.e}, bad[[]T]{[]T{x.x, good}, x.e})
	}
	return out
}

// badNumbers returns numbers that are not from low to high.
func badNumbers(low, high int) []bad[int] {
	var out []bad[int]
	for _, n := range []int{low - 1, high + 1, math.MinInt, math.MaxInt, 1 << 32, -1 << 32} {
		out = append(out, bad[int]{n, api.ErrRange})
	}
	return out
}

var badNames = []string{"", "9", "_a", "a b", "a-b", "\u00e9", "a\n", strings.Repeat("a", 25)}

func badPoints() []bad[api.Point] {
	var out []bad[api.Point]
	for _, n := range badNumbers(-1000000, 1000000) {
		out = append(out, bad[api.Point]{point(n.x, 0), n.e}, bad[api.Point]{point(0, n.x), n.e})
	}
	return out
}

func badPolygons() []bad[[]api.Point] {
	out := []bad[[]api.Point]{
		{nil, api.ErrShort}, {[]api.Point{}, api.ErrShort}, {polygon(0, 0), api.ErrShort}, {polygon(0, 0, 6, 0), api.ErrShort}, {polygon(0, 1000001, 6, 0), api.ErrShort},
		{polygon(0, 0, 3, 0, 5, 1, 6, 3, 6, 5, 5, 7, 3, 8, 0, 8, -2, 4), api.ErrMany}, {make([]api.Point, 9), api.ErrMany}, {slices.Repeat(polygon(0, 1000001), 9), api.ErrMany}, {make([]api.Point, 100000), api.ErrMany},
		{polygon(0, 0, 0, 6, 6, 0), api.ErrForm}, // to the right
		{polygon(0, 0, 0, 0, 0, 0), api.ErrForm}, {make([]api.Point, 8), api.ErrForm},
		{polygon(0, 0, 3, 0, 6, 0), api.ErrForm}, {polygon(0, 0, 6, 0, 3, 0), api.ErrForm}, // on a line
		{polygon(0, 0, 6, 0, 6, 0, 0, 6), api.ErrForm}, {polygon(0, 0, 6, 0, 0, 6, 0, 0), api.ErrForm}, {polygon(0, 0, 6, 0, 0, 0, 0, 6), api.ErrForm}, // a corner twice
		{polygon(0, 0, 6, 0, 0, 6, 0, 0, 6, 0, 0, 6), api.ErrForm}, {polygon(0, 0, 1, 0, 1, 1, 0, 1, 0, 0, 1, 0, 1, 1, 0, 1), api.ErrForm}, // twice around
		{polygon(0, 0, 3, 0, 6, 0, 0, 6), api.ErrForm}, {polygon(0, 0, 6, 0, 3, 3, 0, 6), api.ErrForm}, {polygon(3, 0, 6, 0, 0, 6, 0, 0), api.ErrForm}, {polygon(0, 0, 6, 0, 0, 6, 0, 3), api.ErrForm}, // straight on at a corner
		{polygon(0, 0, 6, 0, 1, 1, 0, 6), api.ErrForm}, {polygon(0, 0, 6, 0, 6, 6, 3, 5, 0, 6), api.ErrForm}, // not convex
		{polygon(0, 0, 6, 6, 6, 0, 0, 6), api.ErrForm}, {polygon(0, 10, -6, -8, 10, 2, -10, 2, 6, -8), api.ErrForm}, // crossing itself
		{polygon(0, 10, 6, -8, -10, 2, 10, 2, -6, -8), api.ErrForm},
		{polygon(0, 0, 1000000, 0, 0, 1000001), api.ErrRange}, {polygon(0, 0, 0, 6, 1000001, 0), api.ErrRange}, // before ErrForm
	}
	for _, x := range badPoints() {
		for i := range 3 {
			l := slices.Clone(triangle)
			l[i] = x.x
			out = append(out, bad[[]api.Point]{l, x.e}, bad[[]api.Point]{slices.Repeat([]api.Point{x.x}, 3+i), x.e})
		}
	}
	return out
}

func badBoxes() []bad[area.Box] {
	out := []bad[area.Box]{
		{box(1, 0, 0, 0), api.ErrOrder}, {box(0, 1, 0, 0), api.ErrOrder}, {box(0, 1, 5, 0), api.ErrOrder}, {box(1, 0, 0, 5), api.ErrOrder}, {box(1000000, 1000000, -1000000, -1000000), api.ErrOrder},
		{box(5, 0, 4, 1000001), api.ErrRange}, {box(5, 0, -1000001, 0), api.ErrRange}, {box(5, 1000001, 4, 0), api.ErrRange}, // before ErrOrder
	}
	for _, x := range badPoints() {
		out = append(out, bad[area.Box]{area.Box{Low: x.x}, x.e}, bad[area.Box]{area.Box{High: x.x}, x.e}, bad[area.Box]{area.Box{Low: x.x, High: x.x}, x.e})
	}
	return out
}

func badSpans() []bad[api.Span] {
	return []bad[api.Span]{
		{span(-1, 5), api.ErrSpan}, {span(-5, -1), api.ErrSpan}, {span(0, 0), api.ErrSpan}, {span(5, 5), api.ErrSpan}, {span(5, 4), api.ErrSpan}, {span(5, 0), api.ErrSpan},
		{span(0, 100000001), api.ErrSpan}, {span(100000000, 100000001), api.ErrSpan}, {span(100000000, 100000000), api.ErrSpan}, {span(math.MinInt, math.MaxInt), api.ErrSpan}, {span(math.MaxInt, math.MinInt), api.ErrSpan}, {span(0, math.MaxInt), api.ErrSpan},
	}
}

// badAreas returns single areas with their errors.
func badAreas() []bad[area.Area] {
	var out []bad[area.Area]
	add := func(e api.Errno, change func(a *area.Area)) {
		out = append(out, bad[area.Area]{with(area.Area{Name: "bad", Category: 1, Polygon: triangle}, change), e})
	}
	for _, s := range badNames {
		add(api.ErrName, func(a *area.Area) { a.Name = s })
		add(api.ErrName, func(a *area.Area) { *a = area.Area{Name: s, Size: 4} })
	}
	for _, n := range badNumbers(0, 3) {
		add(n.e, func(a *area.Area) { a.Size = n.x })
		add(n.e, func(a *area.Area) { a.Size, a.Polygon = n.x, nil }) // before the polygon
	}
	for _, n := range badNumbers(1, 3) {
		add(n.e, func(a *area.Area) { a.Category = n.x })
		add(n.e, func(a *area.Area) { a.Category, a.Polygon = n.x, nil })
	}
	for _, x := range badPolygons() {
		add(x.e, func(a *area.Area) { a.Polygon = x.x })
	}
	return out
}

func badAreaLists() []bad[[]area.Area] {
	out := within(crit, badAreas())
	out = append(out,
		bad[[]area.Area]{make([]area.Area, 17), api.ErrMany},
		bad[[]area.Area]{manyAreas(17), api.ErrMany},
		bad[[]area.Area]{[]area.Area{crit, crit}, api.ErrTwice},
		bad[[]area.Area]{[]area.Area{crit, sens, {Name: "crit", Size: 4}}, api.ErrTwice},
		bad[[]area.Area]{[]area.Area{crit, {Name: "sens", Size: 4}, crit}, api.ErrRange},
		bad[[]area.Area]{[]area.Area{crit, {Name: "9"}, crit}, api.ErrName})
	return out
}

// badLandings returns single landings with their errors.
func badLandings() []bad[area.Landing] {
	var out []bad[area.Landing]
	add := func(e api.Errno, change func(n *area.Landing)) {
		out = append(out, bad[area.Landing]{with(area.Landing{Name: "bad", Category: 1, Ticks: span(3, 4)}, change), e})
	}
	for _, s := range badNames {
		add(api.ErrName, func(n *area.Landing) { n.Name = s })
		add(api.ErrName, func(n *area.Landing) { *n = area.Landing{Name: s} })
	}
	for _, k := range badNumbers(1, 3) {
		add(k.e, func(n *area.Landing) { n.Category = k.x })
		add(k.e, func(n *area.Landing) { n.Category, n.Ticks = k.x, span(0, 0) }) // before the ticks
	}
	for _, s := range badSpans() {
		add(s.e, func(n *area.Landing) { n.Ticks = s.x })
	}
	return out
}

func badLandingLists() []bad[[]area.Landing] {
	l1 := landings[0]
	out := within(l1, badLandings())
	out = append(out,
		bad[[]area.Landing]{make([]area.Landing, 33), api.ErrMany},
		bad[[]area.Landing]{manyLandings(33), api.ErrMany},
		bad[[]area.Landing]{[]area.Landing{l1, l1}, api.ErrTwice},
		bad[[]area.Landing]{[]area.Landing{l1, landings[1], {Name: "l1"}}, api.ErrTwice},
		bad[[]area.Landing]{[]area.Landing{l1, {Name: "l2"}, l1}, api.ErrRange})
	return out
}

// badMoves returns single moves with their errors.
func badMoves() []bad[area.Move] {
	var out []bad[area.Move]
	add := func(e api.Errno, change func(m *area.Move)) {
		out = append(out, bad[area.Move]{with(area.Move{Name: "bad", Ticks: span(3, 4)}, change), e})
	}
	for _, s := range badNames {
		add(api.ErrName, func(m *area.Move) { m.Name = s })
		add(api.ErrName, func(m *area.Move) { *m = area.Move{Name: s, Size: 4} })
	}
	for _, n := range badNumbers(0, 3) {
		add(n.e, func(m *area.Move) { m.Size = n.x })
		add(n.e, func(m *area.Move) { m.Size, m.Box, m.Ticks = n.x, box(1, 0, 0, 0), span(0, 0) }) // before the box and the ticks
	}
	for _, b := range badBoxes() {
		add(b.e, func(m *area.Move) { m.Box = b.x })
		add(b.e, func(m *area.Move) { m.Box, m.Ticks = b.x, span(0, 0) }) // before the ticks
	}
	for _, s := range badSpans() {
		add(s.e, func(m *area.Move) { m.Ticks = s.x })
	}
	return out
}

func badMoveLists() []bad[[]area.Move] {
	other := area.Move{Name: "other", Size: 4}
	out := within(moveM, badMoves())
	out = append(out,
		bad[[]area.Move]{make([]area.Move, 33), api.ErrMany},
		bad[[]area.Move]{manyMoves(33), api.ErrMany},
		bad[[]area.Move]{[]area.Move{moveM, moveM}, api.ErrTwice},
		bad[[]area.Move]{[]area.Move{moveM, {Name: "m", Size: 4}}, api.ErrTwice},
		bad[[]area.Move]{[]area.Move{moveM, other, moveM}, api.ErrRange})
	return out
}

func badHoldLists() []bad[[]area.Hold] {
	h := holds[0]
	var single []bad[area.Hold]
	for _, s := range badNames {
		single = append(single, bad[area.Hold]{area.Hold{Name: s}, api.ErrName}, bad[area.Hold]{area.Hold{Name: s, At: point(1000001, 0)}, api.ErrName})
	}
	for _, p := range badPoints() {
		single = append(single, bad[area.Hold]{area.Hold{Name: "bad", At: p.x}, p.e})
	}
	out := within(h, single)
	out = append(out,
		bad[[]area.Hold]{make([]area.Hold, 17), api.ErrMany},
		bad[[]area.Hold]{manyHolds(17), api.ErrMany},
		bad[[]area.Hold]{[]area.Hold{h, h}, api.ErrTwice},
		bad[[]area.Hold]{[]area.Hold{h, {Name: "g"}, {Name: "h", At: point(1000001, 0)}}, api.ErrTwice},
		bad[[]area.Hold]{[]area.Hold{h, {Name: "g", At: point(1000001, 0)}, h}, api.ErrRange})
	return out
}

func badFlightLists() []bad[[]area.Flight] {
	f := flights[0]
	var single []bad[area.Flight]
	for _, s := range badNames {
		single = append(single, bad[area.Flight]{area.Flight{Name: s}, api.ErrName}, bad[area.Flight]{area.Flight{Name: s, Kind: 3}, api.ErrName})
	}
	for _, n := range badNumbers(0, 2) {
		single = append(single, bad[area.Flight]{area.Flight{Name: "bad", Kind: n.x}, n.e})
	}
	for _, n := range badNumbers(0, 100000000) {
		single = append(single, bad[area.Flight]{area.Flight{Name: "bad", Ready: n.x}, n.e})
	}
	out := within(f, single)
	out = append(out,
		bad[[]area.Flight]{nil, api.ErrEmpty},
		bad[[]area.Flight]{[]area.Flight{}, api.ErrEmpty},
		bad[[]area.Flight]{make([]area.Flight, 9), api.ErrMany},
		bad[[]area.Flight]{manyFlights(9), api.ErrMany},
		bad[[]area.Flight]{[]area.Flight{f, f}, api.ErrTwice},
		bad[[]area.Flight]{[]area.Flight{f, flights[1], {Name: "a", Kind: 3}}, api.ErrTwice},
		bad[[]area.Flight]{[]area.Flight{f, {Name: "b", Kind: 3}, f}, api.ErrRange})
	return out
}

func badSpacings() []bad[spacing] {
	var out []bad[spacing]
	for _, n := range badNumbers(0, 10000) {
		for i := range 9 {
			x := table
			x[i/3][i%3] = n.x
			out = append(out, bad[spacing]{x, n.e})
		}
	}
	return out
}

// badOrders returns orders of three flights with their errors. An index that is none decides before one that occurs twice, wherever both are.
func badOrders() []bad[[]int] {
	return []bad[[]int]{
		{nil, api.ErrShape}, {[]int{0, 1}, api.ErrShape}, {[]int{0, 1, 2, 3}, api.ErrShape}, {[]int{0, 1, 2, 2}, api.ErrShape}, {[]int{-1, 3}, api.ErrShape},
		{[]int{0, 1, 3}, api.ErrUnknown}, {[]int{-1, 0, 1}, api.ErrUnknown}, {[]int{0, math.MaxInt, 1}, api.ErrUnknown}, {[]int{0, 1, math.MinInt}, api.ErrUnknown}, {[]int{3, 3, 3}, api.ErrUnknown}, {[]int{0, 3, 0}, api.ErrUnknown},
		{[]int{0, 0, 3}, api.ErrUnknown}, {[]int{1, 1, -1}, api.ErrUnknown}, {[]int{3, 0, 0}, api.ErrUnknown}, {[]int{0, 0, math.MaxInt}, api.ErrUnknown},
		{[]int{0, 0, 1}, api.ErrTwice}, {[]int{0, 1, 0}, api.ErrTwice}, {[]int{2, 1, 1}, api.ErrTwice}, {[]int{1, 2, 1}, api.ErrTwice}, {[]int{2, 2, 2}, api.ErrTwice},
	}
}

// The following functions return n good elements, of which no two have the same name.

func manyAreas(n int) []area.Area {
	var l []area.Area
	for i := range n {
		l = append(l, area.Area{Name: nameOf(i), Size: i % 4, Category: 1 + i%3, Polygon: triangle})
	}
	return l
}

func manyLandings(n int) []area.Landing {
	var l []area.Landing
	for i := range n {
		l = append(l, area.Landing{Name: nameOf(i), Category: 1 + i%3, Ticks: span(i, 40)})
	}
	return l
}

func manyMoves(n int) []area.Move {
	var l []area.Move
	for i := range n {
		l = append(l, area.Move{Name: nameOf(i), Size: i % 4, Box: box(1, 1, 2, 2), Ticks: span(0, i+1)})
	}
	return l
}

func manyHolds(n int) []area.Hold {
	var l []area.Hold
	for i := range n {
		l = append(l, area.Hold{Name: nameOf(i), At: point(i, 0)})
	}
	return l
}

func manyFlights(n int) []area.Flight {
	var l []area.Flight
	for i := range n {
		l = append(l, area.Flight{Name: nameOf(i), Kind: i % 3, Ready: i})
	}
	return l
}
