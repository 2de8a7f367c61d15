package area_test

import (
	"slices"
	"testing"

	"glideslope/api"
	"glideslope/area"
)

// The tests of this file are those of P5.2.

func applying(l []area.Area, size, category int) []any {
	names, e := area.Applying(l, size, category)
	return all(names, e)
}

func conflicting(areas []area.Area, landings []area.Landing, moves []area.Move) []any {
	l, e := area.Conflicts(areas, landings, moves)
	return all(l, e)
}

func permitted(areas []area.Area, landings []area.Landing, m area.Move) []any {
	is, e := area.Permitted(areas, landings, m)
	return all(is, e)
}

func clearAt(areas []area.Area, landings []area.Landing, moves []area.Move, tick int) []any {
	is, e := area.Clear(areas, landings, moves, tick)
	return all(is, e)
}

func usable(areas []area.Area, holds []area.Hold, size, category int) []any {
	names, e := area.Usable(areas, holds, size, category)
	return all(names, e)
}

func earliest(areas []area.Area, landings []area.Landing, m area.Move) []any {
	tick, e := area.Earliest(areas, landings, m)
	return all(tick, e)
}

// moving returns M with another size and other ticks.
func moving(size, from, to int) area.Move {
	return with(moveM, func(m *area.Move) { m.Size, m.Ticks = size, span(from, to) })
}

// crossing returns the move of example 6.
func crossing(from, ticks int) area.Move {
	return area.Move{Name: "x", Size: 1, Box: box(1, 1, 2, 2), Ticks: span(from, from+ticks)}
}

func TestChecks(t *testing.T) {
	corner := area.Area{Name: "abcdefghijklmnopqrstuvwx", Size: 3, Category: 3, Polygon: polygon(-1000000, -1000000, 1000000, -1000000, 1000000, 1000000)}
	for _, l := range [][]area.Area{nil, areas, manyAreas(16), {corner, {Name: "Abcdefghijklmnopqrstuvwx", Category: 1, Polygon: triangle}}} {
		same(t, "CheckAreas", all(l, area.CheckAreas(l)), all(l, api.OK))
	}
	for _, x := range badAreaLists() {
		same(t, "CheckAreas", all(x.x, area.CheckAreas(x.x)), all(x.x, x.e))
	}
	for _, l := range [][]area.Landing{nil, landings, manyLandings(32), {{Name: "A_9", Category: 3, Ticks: span(0, 100000000)}, {Name: "a_9", Category: 1, Ticks: span(99999999, 100000000)}, {Name: "B", Category: 2, Ticks: span(0, 1)}}} {
		same(t, "CheckLandings", all(l, area.CheckLandings(l)), all(l, api.OK))
	}
	for _, x := range badLandingLists() {
		same(t, "CheckLandings", all(x.x, area.CheckLandings(x.x)), all(x.x, x.e))
	}
	for _, l := range [][]area.Move{nil, {moveM}, manyMoves(32), {{Name: "A_9", Size: 3, Box: box(-1000000, -1000000, 1000000, 1000000), Ticks: span(0, 100000000)}, {Name: "a_9", Box: box(1000000, 1000000, 1000000, 1000000), Ticks: span(99999999, 100000000)}}} {
		same(t, "CheckMoves", all(l, area.CheckMoves(l)), all(l, api.OK))
	}
	for _, x := range badMoveLists() {
		same(t, "CheckMoves", all(x.x, area.CheckMoves(x.x)), all(x.x, x.e))
	}
}

func TestApplying(t *testing.T) {
	for _, x := range []struct {
		size, category int
		l              []string
	}{
		{1, 2, []string{"crit"}}, {2, 2, []string{"crit", "sens"}}, {0, 3, nil}, {3, 3, []string{"crit", "sens"}}, {2, 1, []string{"crit"}}, {0, 1, nil}, {1, 1, []string{"crit"}}, {1, 3, []string{"crit"}},
	} {
		same(t, "Applying", all(x.size, x.category, applying(areas, x.size, x.category)), all(x.size, x.category, all(x.l, api.OK)))
	}
	same(t, "Applying in the order of areas", applying([]area.Area{sens, crit}, 2, 2), all([]string{"sens", "crit"}, api.OK))
	same(t, "Applying of none", applying(nil, 2, 2), all([]string{}, api.OK))
	for size := range 4 {
		for category := 1; category <= 3; category++ {
			var want []string
			for i := range 16 {
				if size >= i%4 && category >= 1+i%3 {
					want = append(want, nameOf(i))
				}
			}
			same(t, "Applying of many", applying(manyAreas(16), size, category), all(want, api.OK))
		}
	}
}

func TestConflicts(t *testing.T) {
	conflict := []area.Conflict{{Landing: 1, Move: 0, Area: 1}}
	for _, x := range []struct {
		m area.Move
		l []area.Conflict
	}{
		{moving(2, 15, 35), conflict}, {moving(3, 15, 35), conflict}, {moving(1, 15, 35), nil}, {moving(0, 15, 35), nil}, {moving(2, 15, 30), nil}, {moving(2, 15, 31), conflict},
		{moving(2, 39, 50), conflict}, {moving(2, 40, 50), nil}, {moving(2, 35, 36), conflict}, {moving(2, 0, 99), conflict}, {moving(2, 10, 20), nil},
		{with(moveM, func(m *area.Move) { m.Box = box(11, 11, 12, 12) }), nil}, {with(moveM, func(m *area.Move) { m.Box = box(10, 10, 12, 12) }), conflict},
		{with(moveM, func(m *area.Move) { m.Box = box(3, 3, 8, 8) }), []area.Conflict{{Landing: 0, Move: 0, Area: 0}, {Landing: 1, Move: 0, Area: 0}, {Landing: 1, Move: 0, Area: 1}}},
		{with(moveM, func(m *area.Move) { m.Box, m.Size = box(3, 3, 8, 8), 1 }), []area.Conflict{{Landing: 0, Move: 0, Area: 0}, {Landing: 1, Move: 0, Area: 0}}},
		{with(moveM, func(m *area.Move) { m.Box, m.Ticks = box(0, 0, 0, 0), span(19, 30) }), []area.Conflict{{Landing: 0, Move: 0, Area: 0}}},
	} {
		same(t, "Conflicts", all(x.m, conflicting(areas, landings, []area.Move{x.m})), all(x.m, all(x.l, api.OK)))
		same(t, "Permitted", all(x.m, permitted(areas, landings, x.m)), all(x.m, all(len(x.l) == 0, api.OK)))
	}
	moves := []area.Move{moveM, with(crossing(0, 99), func(m *area.Move) { m.Size = 3 })}
	l := []area.Conflict{{Landing: 0, Move: 1, Area: 0}, {Landing: 1, Move: 0, Area: 1}, {Landing: 1, Move: 1, Area: 0}, {Landing: 1, Move: 1, Area: 1}}
	same(t, "Conflicts in their order", conflicting(areas, landings, moves), all(l, api.OK))
	for i, x := range [][]any{conflicting(nil, landings, moves), conflicting(areas, nil, moves), conflicting(areas, landings, nil)} {
		same(t, "no conflicts", all(i, x), all(i, all([]area.Conflict{}, api.OK)))
	}
	same(t, "Permitted without areas", permitted(nil, landings, moveM), all(true, api.OK))
	same(t, "Permitted without landings", permitted(areas, nil, moveM), all(true, api.OK))
}

// Each landing with each move and each area.
func TestManyConflicts(t *testing.T) {
	a, n, m := manyAreas(16), manyLandings(32), manyMoves(32)
	for i := range a {
		a[i].Size, a[i].Category = 0, 1
	}
	for i := range n {
		n[i].Ticks, m[i].Ticks = span(5, 6), span(0, 9)
	}
	var want []area.Conflict
	for i := range 32 * 32 * 16 {
		want = append(want, area.Conflict{Landing: i / 16 / 32, Move: i / 16 % 32, Area: i % 16})
	}
	same(t, "Conflicts", conflicting(a, n, m), all(want, api.OK))
}

func TestConflictsAgainstDefinition(t *testing.T) {
	r := numbers{11}
	count, free := 0, 0
	for range 5000 {
		far := r.far()
		a, n, m := r.areas(far, 3), r.landings(3), r.moves(far, 3)
		l := conflictsOf(a, n, m)
		count += len(l)
		same(t, "Conflicts", all(a, n, m, conflicting(a, n, m)), all(a, n, m, all(l, api.OK)))
		x := r.move(far)
		is := len(conflictsOf(a, n, []area.Move{x})) == 0
		if is {
			free++
		}
		same(t, "Permitted", all(a, n, x, permitted(a, n, x)), all(a, n, x, all(is, api.OK)))
		tick := r.below(41)
		same(t, "Clear", all(a, n, m, tick, clearAt(a, n, m, tick)), all(a, n, m, tick, all(isClearOf(a, n, m, tick), api.OK)))
	}
	same(t, "are there conflicts, and none", all(count > 2000, free > 1000, free < 4500), all(true, true, true))
}

func TestClear(t *testing.T) {
	for tick, is := range map[int]bool{30: false, 29: true, 35: true, 34: false, 15: true, 0: true, 39: true, 40: true, 100000000: true} {
		same(t, "Clear", all(tick, clearAt(areas, landings, []area.Move{moveM}, tick)), all(tick, all(is, api.OK)))
	}
	both := []area.Move{moving(2, 15, 32), with(moving(2, 38, 50), func(m *area.Move) { m.Name = "n" })}
	for tick, is := range map[int]bool{29: true, 30: false, 31: false, 32: true, 37: true, 38: false, 39: false, 40: true} {
		same(t, "Clear of two moves", all(tick, clearAt(areas, landings, both, tick)), all(tick, all(is, api.OK)))
	}
	same(t, "Clear without moves", clearAt(areas, landings, nil, 30), all(true, api.OK))
}

func TestUsable(t *testing.T) {
	for _, x := range []struct {
		at             api.Point
		size, category int
		is             bool
	}{
		{point(5, 5), 2, 1, true}, {point(5, 5), 2, 2, false}, {point(5, 5), 1, 2, true}, {point(5, 5), 3, 3, false}, {point(3, 3), 1, 1, false}, {point(3, 3), 0, 3, true}, {point(4, 3), 1, 3, true}, {point(4, 3), 2, 2, false}, {point(10, 10), 2, 2, false}, {point(11, 10), 3, 3, true},
	} {
		var want []string
		if x.is {
			want = []string{"h"}
		}
		same(t, "Usable", all(x, usable(areas, []area.Hold{{Name: "h", At: x.at}}, x.size, x.category)), all(x, all(want, api.OK)))
	}
	l := []area.Hold{{Name: "z", At: point(11, 0)}, {Name: "y", At: point(1, 1)}, {Name: "x", At: point(7, 7)}, {Name: "w", At: point(-1000000, 1000000)}}
	same(t, "Usable in the order of holds", usable(areas, l, 1, 3), all([]string{"z", "x", "w"}, api.OK))
	same(t, "Usable", usable(areas, l, 2, 2), all([]string{"z", "w"}, api.OK))
	same(t, "Usable without areas", usable(nil, l, 2, 2), all([]string{"z", "y", "x", "w"}, api.OK))
	same(t, "Usable without holds", usable(areas, nil, 2, 2), all([]string{}, api.OK))
	r := numbers{12}
	for range 1000 {
		far := r.far()
		a, size, category := r.areas(far, 4), r.below(4), 1+r.below(3)
		var holds []area.Hold
		var want []string
		for i := range r.below(17) {
			h := area.Hold{Name: nameOf(i), At: r.point(far)}
			holds = append(holds, h)
			if !slices.ContainsFunc(a, func(a area.Area) bool { return size >= a.Size && category >= a.Category && inOf(a.Polygon, h.At) }) {
				want = append(want, h.Name)
			}
		}
		same(t, "Usable", all(a, holds, usable(a, holds, size, category)), all(a, holds, all(want, api.OK)))
	}
}

func TestEarliest(t *testing.T) {
	for _, x := range []struct{ from, ticks, tick int }{
		{5, 6, 20}, {5, 11, 40}, {0, 10, 0}, {0, 11, 40}, {5, 5, 5}, {4, 6, 4}, {10, 1, 20}, {19, 1, 20}, {20, 10, 20}, {20, 11, 40}, {21, 9, 21}, {21, 10, 40}, {29, 1, 29}, {30, 1, 40}, {39, 1, 40}, {40, 1, 40}, {99, 10000, 99}, {0, 10000, 40}, {99990000, 10000, 99990000},
	} {
		same(t, "Earliest", all(x, earliest(areas, landings, crossing(x.from, x.ticks))), all(x, all(x.tick, api.OK)))
	}
	same(t, "Earliest of a size that no area applies to", earliest(areas, landings, with(crossing(15, 6), func(m *area.Move) { m.Size = 0 })), all(15, api.OK))
	same(t, "Earliest of a box that meets no area", earliest(areas, landings, with(crossing(15, 6), func(m *area.Move) { m.Box = box(11, 0, 12, 9) })), all(15, api.OK))
	same(t, "Earliest without landings", earliest(areas, nil, crossing(15, 6)), all(15, api.OK))
	same(t, "Earliest without areas", earliest(nil, landings, crossing(15, 6)), all(15, api.OK))
}

func TestEarliestLimits(t *testing.T) {
	for _, x := range []struct {
		m    area.Move
		tick int
		e    api.Errno
	}{
		{crossing(5, 10000), 40, api.OK}, {crossing(5, 10001), 0, api.ErrRange}, {crossing(0, 100000000), 0, api.ErrRange},
		{with(crossing(5, 10001), func(m *area.Move) { m.Size = 0 }), 0, api.ErrRange}, // also if it would be permitted at once
	} {
		same(t, "Earliest", all(x.m, earliest(areas, landings, x.m)), all(x.m, all(x.tick, x.e)))
	}
	// A move ends at MaxTick at the latest, so that a crossing after the landing has room or not.
	for _, x := range []struct {
		until, from, ticks, tick int
		e                        api.Errno
	}{
		{100000000, 50, 1, 0, api.ErrNone}, {100000000, 50, 10000, 0, api.ErrNone}, {100000000, 99999999, 1, 0, api.ErrNone}, {99999999, 50, 1, 99999999, api.OK}, {99999999, 50, 3, 0, api.ErrNone}, {99999990, 50, 10, 99999990, api.OK}, {99999990, 50, 12, 0, api.ErrNone}, {99999990, 50, 11, 0, api.ErrNone},
		{100000000, 5, 5, 5, api.OK}, {99990000, 50, 10000, 99990000, api.OK}, {99990001, 50, 10000, 0, api.ErrNone},
	} {
		l := []area.Landing{{Name: "long", Category: 1, Ticks: span(10, x.until)}}
		same(t, "Earliest near the last tick", all(x, earliest(areas, l, crossing(x.from, x.ticks))), all(x, all(x.tick, x.e)))
	}
}

func TestEarliestAgainstDefinition(t *testing.T) {
	r := numbers{13}
	later := 0
	for range 5000 {
		far := r.far()
		a, n, m := r.areas(far, 3), r.landings(5), r.move(far)
		if r.below(2) == 0 {
			m.Ticks.To = m.Ticks.From + 1 + r.below(4)
		}
		tick := earliestOf(a, n, m)
		if tick > m.Ticks.From {
			later++
		}
		same(t, "Earliest", all(a, n, m, earliest(a, n, m)), all(a, n, m, all(tick, api.OK)))
	}
	same(t, "are there later crossings", all(later > 500), all(true))
}

func TestAreaErrors(t *testing.T) {
	someAreas, someLandings := argumentOf(areas, badAreaLists()), argumentOf(landings, badLandingLists())
	someMoves, aMove := argumentOf([]area.Move{moveM}, badMoveLists()), argumentOf(moveM, badMoves())
	aSize, aCategory := argumentOf(2, badNumbers(0, 3)), argumentOf(2, badNumbers(1, 3))
	checkErrors(t, "Applying", func(a []any) []any { return applying(a[0].([]area.Area), a[1].(int), a[2].(int)) }, all([]string{}), someAreas, aSize, aCategory)
	checkErrors(t, "Conflicts", func(a []any) []any {
		return conflicting(a[0].([]area.Area), a[1].([]area.Landing), a[2].([]area.Move))
	}, all([]area.Conflict{}), someAreas, someLandings, someMoves)
	checkErrors(t, "Permitted", func(a []any) []any {
		return permitted(a[0].([]area.Area), a[1].([]area.Landing), a[2].(area.Move))
	}, all(false), someAreas, someLandings, aMove)
	checkErrors(t, "Clear", func(a []any) []any {
		return clearAt(a[0].([]area.Area), a[1].([]area.Landing), a[2].([]area.Move), a[3].(int))
	}, all(false), someAreas, someLandings, someMoves, argumentOf(35, badNumbers(0, 100000000)))
	checkErrors(t, "Usable", func(a []any) []any {
		return usable(a[0].([]area.Area), a[1].([]area.Hold), a[2].(int), a[3].(int))
	}, all([]string{}), someAreas, argumentOf(holds, badHoldLists()), aSize, aCategory)
	checkErrors(t, "Earliest", func(a []any) []any {
		return earliest(a[0].([]area.Area), a[1].([]area.Landing), a[2].(area.Move))
	}, all(0), someAreas, someLandings, aMove)
	for _, n := range []int{15, 16} {
		names, e := area.Usable(areas, manyHolds(n), 0, 1)
		same(t, "Usable of many", all(len(names), e), all(n, api.OK))
	}
}
