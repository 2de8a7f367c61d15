package area_test

import (
	"fmt"
	"math"
	"slices"
	"testing"

	"glideslope/api"
	"glideslope/area"
)

// The tests of this file are those of P5.5, and of the rules that hold for all functions: P1, memory and determinism.

func isInBox(p api.Point, b area.Box) bool {
	return b.Low.X <= p.X && p.X <= b.High.X && b.Low.Y <= p.Y && p.Y <= b.High.Y
}

func TestCommonPointsMeet(t *testing.T) {
	r := numbers{41}
	count := 0
	for range 3000 {
		far := r.far()
		l, b := r.polygon(far), r.box(far)
		has := slices.ContainsFunc(l, func(p api.Point) bool { return isInBox(p, b) })
		for range 20 {
			p := point(b.Low.X+r.below(b.High.X-b.Low.X+1), b.Low.Y+r.below(b.High.Y-b.Low.Y+1))
			is, e := area.In(l, p)
			same(t, "In", all(e), all(api.OK))
			has = has || is
		}
		if has {
			count++
			same(t, "Meets", all(l, b, met(l, b)), all(l, b, all(true, api.OK)))
		}
	}
	same(t, "are there common points", all(count > 500), all(true))
}

// farthest returns the greatest absolute value of all parts of points.
func farthest(l ...api.Point) int {
	most := 0
	for _, p := range l {
		most = max(most, absolute(p.X), absolute(p.Y))
	}
	return most
}

func TestMovedTogether(t *testing.T) {
	r := numbers{43}
	for range 5000 {
		far := []int{2, 5, 20, 300000}[r.below(4)]
		l, b, p := r.polygon(far), r.box(far), r.point(far)
		by := r.point(1000000 - farthest(append(slices.Clone(l), b.Low, b.High, p)...))
		moved := func(p api.Point) api.Point { return point(p.X+by.X, p.Y+by.Y) }
		there := slices.Clone(l)
		for i := range there {
			there[i] = moved(there[i])
		}
		same(t, "Meets there", all(l, b, by, met(there, area.Box{Low: moved(b.Low), High: moved(b.High)})), all(l, b, by, met(l, b)))
		same(t, "In there", all(l, p, by, checkedIn(there, moved(p))), all(l, p, by, checkedIn(l, p)))
		same(t, "Size there", all(l, by, sized(there)), all(l, by, sized(l)))
	}
}

// widened returns a box that has all of another one.
func (r *numbers) widened(b area.Box) area.Box {
	return box(max(-1000000, b.Low.X-r.below(3)), max(-1000000, b.Low.Y-r.below(3)), min(1000000, b.High.X+r.below(3)), min(1000000, b.High.Y+r.below(3)))
}

// more returns areas, landings and moves, of which each one has one more, or a greater box or size.
func (r *numbers) more(far int, areas []area.Area, landings []area.Landing, moves []area.Move) ([]area.Area, []area.Landing, []area.Move) {
	areas, landings, moves = slices.Clone(areas), slices.Clone(landings), slices.Clone(moves)
	switch r.below(4) {
	case 0:
		for i := range moves {
			moves[i].Box = r.widened(moves[i].Box)
		}
	case 1:
		areas = append(areas, area.Area{Name: "more", Size: r.below(4), Category: 1 + r.below(3), Polygon: r.polygon(far)})
	case 2:
		landings = append(landings, area.Landing{Name: "more", Category: 1 + r.below(3), Ticks: r.span()})
	case 3:
		for i := range moves {
			moves[i].Size = min(3, moves[i].Size+r.below(3))
		}
	}
	return areas, landings, moves
}

func TestMoreHasNoFewerConflicts(t *testing.T) {
	r := numbers{45}
	added := 0
	for range 3000 {
		far := r.far()
		a, n, m := r.areas(far, 3), r.landings(4), r.moves(far, 4)
		before, _ := area.Conflicts(a, n, m)
		a, n, m = r.more(far, a, n, m)
		after, e := area.Conflicts(a, n, m)
		same(t, "Conflicts", all(e), all(api.OK))
		added += len(after) - len(before)
		for _, c := range before {
			if !slices.Contains(after, c) {
				t.Errorf("Conflicts(%v, %v, %v): %v is no longer one", a, n, m, c)
			}
		}
	}
	same(t, "are there more conflicts", all(added > 300), all(true))
}

func TestPermittedMovesLeaveAllClear(t *testing.T) {
	r := numbers{47}
	count := 0
	for range 2000 {
		far := r.far()
		a, n := r.areas(far, 3), r.landings(3)
		var m []area.Move
		for _, x := range r.moves(far, 6) {
			if is, _ := area.Permitted(a, n, x); is {
				m = append(m, x)
			}
		}
		count += len(m)
		same(t, "Conflicts", all(a, n, m, conflicting(a, n, m)), all(a, n, m, all([]area.Conflict{}, api.OK)))
		for tick := range 42 {
			same(t, "Clear", all(a, n, m, tick, clearAt(a, n, m, tick)), all(a, n, m, tick, all(true, api.OK)))
		}
	}
	same(t, "are there permitted moves", all(count > 1000), all(true))
}

func TestEarliestIsPermitted(t *testing.T) {
	r := numbers{49}
	for range 3000 {
		far := r.far()
		a, n, m := r.areas(far, 3), r.landings(5), r.move(far)
		first, ticks := m.Ticks.From, m.Ticks.To-m.Ticks.From
		tick, e := area.Earliest(a, n, m)
		same(t, "Earliest", all(e, tick >= first), all(api.OK, true))
		m.Ticks = span(tick, tick+ticks)
		same(t, "Permitted", all(a, n, m, permitted(a, n, m)), all(a, n, m, all(true, api.OK)))
		for before := first; before < tick; before++ {
			m.Ticks = span(before, before+ticks)
			same(t, "Permitted before", all(a, n, m, permitted(a, n, m)), all(a, n, m, all(false, api.OK)))
		}
	}
}

// An earliest crossing at the end of all ticks is a move that is permitted, too.
func TestEarliestAtTheEnd(t *testing.T) {
	r := numbers{50}
	none := 0
	for range 1000 {
		l := []area.Landing{{Name: "long", Category: 1, Ticks: span(10, 100000000-r.below(6))}}
		m := crossing(r.below(30), 1+r.below(6))
		tick, e := area.Earliest(areas, l, m)
		if e != api.OK {
			none++
			continue
		}
		m.Ticks = span(tick, tick+m.Ticks.To-m.Ticks.From)
		same(t, "Permitted", all(l, m, permitted(areas, l, m)), all(l, m, all(true, api.OK)))
	}
	same(t, "are there both", all(none > 100, none < 900), all(true, true))
}

func TestNoOrderIsBetter(t *testing.T) {
	r := numbers{51}
	for range 400 {
		l, x := r.flights(5), r.spacing()
		order, least, e := area.Best(l, x)
		same(t, "Best", all(e, delayed(l, x, order)), all(api.OK, all(least, api.OK)))
		n, _ := area.Bound(l, x)
		if n > least {
			t.Errorf("Bound(%v, %v): %v, above %v", l, x, n, least)
		}
		for _, other := range ordersOf(len(l)) {
			if n, _ := area.Delay(l, x, other); n < least || n == least && slices.Compare(other, order) < 0 {
				t.Errorf("Delay(%v, %v, %v): %v, better than %v", l, x, other, n, order)
			}
		}
	}
}

func TestTheSameSpacings(t *testing.T) {
	r := numbers{53}
	for i := range 300 {
		n := 6
		if i%50 == 0 {
			n = 8
		}
		l, x := r.flights(n), even(r.below([]int{3, 20, 10001}[r.below(3)]))
		_, least, e := area.Best(l, x)
		same(t, "Bound", all(l, x, bound(l, x)), all(l, x, all(least, e)))
	}
}

// P1: no function panics, whatever its arguments are.
func TestNoPanics(t *testing.T) {
	ints := []int{math.MinInt, -1000000000, -1, 0, 1, 3, 1000000, 100000000, math.MaxInt}
	for _, a := range ints {
		for _, b := range ints {
			p, s := point(a, b), span(a, b)
			odd := area.Box{Low: p, High: point(b, a)}
			for _, l := range [][]api.Point{nil, {p}, {p, p, p}, {p, point(b, a), point(a, a), point(b, b)}, triangle, make([]api.Point, 1000)} {
				noPanic(t, "shapes", func() {
					area.CheckPolygon(l)
					area.In(l, p)
					area.Size(l)
					area.Meets(l, odd)
					area.Meets(l, area.Box{Low: p, High: p})
				})
				for _, x := range [][]area.Area{{{Name: "a", Size: a, Category: b, Polygon: l}}, {{Name: "a", Category: 1, Polygon: l}}, {crit, crit}, make([]area.Area, 100)} {
					n := []area.Landing{{Name: "n", Category: 1, Ticks: s}, {Name: "o", Category: a, Ticks: span(3, 9)}}
					m := area.Move{Name: "m", Size: 3, Box: odd, Ticks: s}
					noPanic(t, "areas", func() {
						area.CheckAreas(x)
						area.Applying(x, a, b)
						area.CheckLandings(n)
						area.CheckMoves([]area.Move{m, m})
						area.Usable(x, []area.Hold{{Name: "h", At: p}}, 3, 3)
						area.Usable(x, nil, a, b)
						area.Print(x)
					})
					for _, n := range [][]area.Landing{n, n[:1], landings} {
						for _, m := range []area.Move{m, moveM, with(moveM, func(m *area.Move) { m.Ticks = s }), with(moveM, func(m *area.Move) { m.Box = odd })} {
							noPanic(t, "conflicts", func() {
								area.Conflicts(x, n, []area.Move{m})
								area.Permitted(x, n, m)
								area.Clear(x, n, []area.Move{m}, a)
								area.Earliest(x, n, m)
								area.Earliest(areas, n, m)
							})
						}
					}
				}
			}
			noPanic(t, "sequences", func() {
				f := []area.Flight{{Name: "f", Kind: a, Ready: b}, {Name: "g", Kind: 1, Ready: a}}
				x := spacing{{a, b}, {0, a}}
				for _, order := range [][]int{nil, {a, b}, {0, a}, {b, 1}, {1, 0}, make([]int, 1000)} {
					area.Times(f, x, order)
					area.Delay(f[1:], x, order)
					area.Times(flights[:2], table, order)
				}
				area.Best(f, x)
				area.Bound(f, x)
				area.Best(f[1:], spacing{})
				area.Bound(f[1:], spacing{})
				area.Bound(flights, x)
			})
		}
	}
	r := numbers{55}
	for range 3000 {
		s := make([]byte, r.below(60))
		for i := range s {
			s[i] = []byte{' ', ' ', '\n', '-', '0', '1', byte(r.below(256))}[r.below(7)]
		}
		noPanic(t, "Parse", func() { area.Parse("area a 1 1 0 0 " + string(s)) })
	}
}

// Arguments stay as they are, and a result that is changed changes neither an argument nor a later result.
func TestMemory(t *testing.T) {
	// what is behind a list is not written to
	a, n, m, h, f := manyAreas(16)[:5], manyLandings(32)[:6], manyMoves(32)[:6], manyHolds(16)[:9], manyFlights(8)[:4]
	order := []int{3, 1, 0, 2, 9}[:4]
	kept := func() string { return shown(a[:16], n[:32], m[:32], h[:16], f[:8], order[:5], table) }
	before := kept()
	once := func() string {
		names, _ := area.Applying(a, 3, 3)
		conflicts, _ := area.Conflicts(a, n, m)
		free, _ := area.Usable(a, h, 3, 3)
		times, _ := area.Times(f, table, order)
		best, delay, _ := area.Best(f, table)
		same(t, "are there results", all(len(names) > 0, len(conflicts) > 0, len(free) > 0, len(times) > 0, len(best) > 0), all(true, true, true, true, true))
		text, _ := area.Print(a)
		back, _, _ := area.Parse(text)
		out := shown(names, conflicts, free, times, best, delay, text, back, bound(f, table), delayed(f, table, order), earliest(a, n, m[0]), clearAt(a, n, m, 9), permitted(a, n, m[1]), checkedIn(triangle, point(1, 1)), sized(triangle), met(triangle, moveM.Box))
		for _, x := range back[1:] {
			clear(back[0].Polygon)
			same(t, "polygons of parsed areas", all(x.Polygon), all(triangle))
		}
		clear(names)
		clear(conflicts)
		clear(free)
		clear(times)
		clear(best)
		clear(back)
		return out
	}
	want := once()
	for range 5 {
		same(t, "results again", all(once()), all(want))
	}
	same(t, "arguments", all(kept()), all(before))
}

// The first error decides in the order of the arguments, not of the maps that find names: each call has the same result.
func TestDeterminism(t *testing.T) {
	l := append(manyAreas(15), area.Area{Name: "n7"})
	for range 50 {
		same(t, "CheckAreas", all(area.CheckAreas(l)), all(api.ErrTwice))
	}
	var first string
	for i := range 20 {
		s := fmt.Sprint(conflicting(manyAreas(16), manyLandings(32), manyMoves(32)), best(make8(3), table))
		if i == 0 {
			first = s
		}
		same(t, "results", all(s), all(first))
	}
}
