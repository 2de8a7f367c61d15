package area

import (
	"glideslope/api"
	"glideslope/common"
	"glideslope/record"
)

// checkPoint returns the error of a point, or OK.
func checkPoint(p api.Point) api.Errno { return common.CheckPoint(p, MaxPlace) }

// CheckPolygon returns the first error of a polygon, or OK.
func CheckPolygon(l []api.Point) api.Errno {
	e := common.First(
		common.Failed(len(l) < minCorners, api.ErrShort),
		common.CheckList(l, MaxCorners, checkPoint))
	if e != api.OK {
		return e
	}
	return common.Failed(!isConvex(l), api.ErrForm)
}

// checkBox returns the error of a box, or OK.
func checkBox(b Box) api.Errno {
	return common.First(
		checkPoint(b.Low),
		checkPoint(b.High),
		common.Failed(b.Low.X > b.High.X || b.Low.Y > b.High.Y, api.ErrOrder))
}

// checkTicks returns the error of a span of ticks, or OK.
func checkTicks(s api.Span) api.Errno {
	return common.Failed(s.From < 0 || s.To <= s.From || s.To > api.MaxTick, api.ErrSpan)
}

// checkTick returns the error of a tick, or OK.
func checkTick(tick int) api.Errno { return common.Between(tick, 0, api.MaxTick) }

// checkSize returns the error of a size, or OK.
func checkSize(size int) api.Errno { return common.Between(size, 0, MaxSize) }

// checkCategory returns the error of a category, or OK.
func checkCategory(category int) api.Errno { return common.Between(category, 1, MaxCategory) }

// named is what has a name.
type named interface{ name() string }

func (a Area) name() string    { return a.Name }
func (n Landing) name() string { return n.Name }
func (m Move) name() string    { return m.Name }
func (h Hold) name() string    { return h.Name }
func (f Flight) name() string  { return f.Name }

// checkNamed returns ErrMany if a list has more elements than permitted, or the error of the first element with one, by its name, by a name that an element before it has, or by the rest of it, or OK.
func checkNamed[T named](l []T, most int, rest func(T) api.Errno) api.Errno {
	taken := map[string]bool{}
	return common.CheckList(l, most, func(x T) api.Errno {
		isTaken := taken[x.name()]
		taken[x.name()] = true
		return common.First(
			common.Failed(!record.IsName(x.name()), api.ErrName),
			common.Failed(isTaken, api.ErrTwice),
			rest(x))
	})
}

// CheckAreas returns the first error of areas, or OK.
func CheckAreas(l []Area) api.Errno {
	return checkNamed(l, MaxAreas, func(a Area) api.Errno {
		return common.First(checkSize(a.Size), checkCategory(a.Category), CheckPolygon(a.Polygon))
	})
}

// CheckLandings returns the first error of landings, or OK.
func CheckLandings(l []Landing) api.Errno {
	return checkNamed(l, MaxLandings, func(n Landing) api.Errno {
		return common.First(checkCategory(n.Category), checkTicks(n.Ticks))
	})
}

// CheckMoves returns the first error of moves, or OK.
func CheckMoves(l []Move) api.Errno {
	return checkNamed(l, MaxMoves, func(m Move) api.Errno {
		return common.First(checkSize(m.Size), checkBox(m.Box), checkTicks(m.Ticks))
	})
}

// checkMove returns the error of a single move, or OK.
func checkMove(m Move) api.Errno { return CheckMoves([]Move{m}) }

// checkHolds returns the error of holds, or OK.
func checkHolds(l []Hold) api.Errno {
	return checkNamed(l, MaxHolds, func(h Hold) api.Errno { return checkPoint(h.At) })
}

// CheckFlights returns the first error of flights, or OK.
func CheckFlights(l []Flight) api.Errno {
	return common.First(
		common.Failed(len(l) == 0, api.ErrEmpty),
		checkNamed(l, api.MaxExact, func(f Flight) api.Errno {
			return common.First(common.Between(f.Kind, 0, MaxKind), checkTick(f.Ready))
		}))
}
