package area

import (
	"iter"
	"slices"

	"glideslope/api"
	"glideslope/common"
)

// applies reports whether an area applies to objects of a size, and to landings of a category.
func (a Area) applies(size, category int) bool { return size >= a.Size && category >= a.Category }

// name returns the name of an area.
func (a Area) name() string { return a.Name }

// Applying returns the names of the areas that apply.
func Applying(l []Area, size, category int) ([]string, api.Errno) {
	if e := common.First(CheckAreas(l), checkSize(size), checkCategory(category)); e != api.OK {
		return nil, e
	}
	applying := common.Where(l, func(a Area) bool { return a.applies(size, category) })
	return common.Mapped(applying, Area.name), api.OK
}

// shared returns the ticks that two spans have in common; its To is not above its From if there are none.
func shared(a, b api.Span) api.Span { return api.Span{From: max(a.From, b.From), To: min(a.To, b.To)} }

// has reports whether a tick is in a span.
func has(s api.Span, tick int) bool { return s.From <= tick && tick < s.To }

// conflicts visits all conflicts in their order.
func conflicts(areas []Area, landings []Landing, moves []Move) iter.Seq[Conflict] {
	return func(yield func(Conflict) bool) {
		for i, n := range landings {
			for j, m := range moves {
				both := shared(n.Ticks, m.Ticks)
				for k, a := range areas {
					is := both.From < both.To && a.applies(m.Size, n.Category) && meets(a.Polygon, m.Box)
					if is && !yield(Conflict{i, j, k}) {
						return
					}
				}
			}
		}
	}
}

// checkAll returns the first error of areas, landings and moves, or OK.
func checkAll(areas []Area, landings []Landing, moves []Move) api.Errno {
	return common.First(CheckAreas(areas), CheckLandings(landings), CheckMoves(moves))
}

// Conflicts returns all conflicts.
func Conflicts(areas []Area, landings []Landing, moves []Move) ([]Conflict, api.Errno) {
	if e := checkAll(areas, landings, moves); e != api.OK {
		return nil, e
	}
	return slices.Collect(conflicts(areas, landings, moves)), api.OK
}

// isPermitted reports whether a move has no conflict with any landing.
func isPermitted(areas []Area, landings []Landing, m Move) bool {
	for range conflicts(areas, landings, []Move{m}) {
		return false
	}
	return true
}

// Permitted reports whether a move is permitted.
func Permitted(areas []Area, landings []Landing, m Move) (bool, api.Errno) {
	if e := checkAll(areas, landings, []Move{m}); e != api.OK {
		return false, e
	}
	return isPermitted(areas, landings, m), api.OK
}

// Clear reports whether a tick is clear.
func Clear(areas []Area, landings []Landing, moves []Move, tick int) (bool, api.Errno) {
	if e := common.First(checkAll(areas, landings, moves), checkTick(tick)); e != api.OK {
		return false, e
	}
	for c := range conflicts(areas, landings, moves) {
		if has(shared(landings[c.Landing].Ticks, moves[c.Move].Ticks), tick) {
			return false, api.OK
		}
	}
	return true, api.OK
}

// name returns the name of a holding point.
func (h Hold) name() string { return h.Name }

// Usable returns the names of the holds that are usable.
func Usable(areas []Area, holds []Hold, size, category int) ([]string, api.Errno) {
	e := common.First(CheckAreas(areas), checkHolds(holds), checkSize(size), checkCategory(category))
	if e != api.OK {
		return nil, e
	}
	free := common.Where(holds, func(h Hold) bool {
		return !slices.ContainsFunc(areas, func(a Area) bool {
			return a.applies(size, category) && isIn(a.Polygon, h.At)
		})
	})
	return common.Mapped(free, Hold.name), api.OK
}

// starting returns a move that starts at a tick, and has as many ticks as before.
func (m Move) starting(tick int) Move {
	m.Ticks = api.Span{From: tick, To: tick + m.Ticks.To - m.Ticks.From}
	return m
}

// starts returns the ticks at which an earliest crossing can start: its first one, and the ends of landings after it, the earliest one first.
func starts(landings []Landing, first int) []int {
	l := []int{first}
	for _, n := range landings {
		if n.Ticks.To > first {
			l = append(l, n.Ticks.To)
		}
	}
	slices.Sort(l)
	return l
}

// Earliest returns the tick of the earliest crossing.
func Earliest(areas []Area, landings []Landing, m Move) (int, api.Errno) {
	e := common.First(
		checkAll(areas, landings, []Move{m}),
		common.Failed(m.Ticks.To-m.Ticks.From > MaxTicks, api.ErrRange))
	if e != api.OK {
		return 0, e
	}
	for _, tick := range starts(landings, m.Ticks.From) {
		crossing := m.starting(tick) // is a move only if it does not end after MaxTick
		if checkTicks(crossing.Ticks) == api.OK && isPermitted(areas, landings, crossing) {
			return tick, api.OK
		}
	}
	return 0, api.ErrNone
}
