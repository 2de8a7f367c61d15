package area

import (
	"glideslope/api"
	"glideslope/common"
	"glideslope/record"
)

// checkPoint returns the error of a point, or OK.
func checkPoint(p api.Point) api.Errno { return common.CheckPoint(p, MaxPlace) }

// CheckPolygon returns the first error of a polygon, or OK.
func CheckPolygon(l []api.Point) api.Errno {
	e := common.First(
		common.Failed(len(l) < minCorners, api.ErrShort),
		common.CheckList(l, MaxCorners, checkPoint))
	if e != api.OK {
		return e
	}
	return common.Failed(!isConvex(l), api.ErrForm)
}

// checkBox returns the error of a box, or OK.
func checkBox(b Box) api.Errno {
	return common.First(
		checkPoint(b.Low),
		checkPoint(b.High),
		common.Failed(b.Low.X > b.High.X || b.Low.Y > b.High.Y, api.ErrOrder))
}

// checkTicks returns the error of a span of ticks, or OK.
func checkTicks(s api.Span) api.Errno { return common.CheckSpan(s, api.MaxTick) }

// checkTick returns the error of a tick, or OK.
func checkTick(tick int) api.Errno { return common.Between(tick, 0, api.MaxTick) }

// checkSize returns the error of a size, or OK.
func checkSize(size int) api.Errno { return common.Between(size, 0, MaxSize) }

// checkCategory returns the error of a category, or OK.
func checkCategory(category int) api.Errno { return common.Between(category, 1, MaxCategory) }

// CheckAreas returns the first error of areas, or OK.
func CheckAreas(l []Area) api.Errno {
	checkName := common.Distinct(record.IsName)
	return common.CheckList(l, MaxAreas, func(a Area) api.Errno {
		return common.First(checkName(a.Name), checkSize(a.Size), checkCategory(a.Category), CheckPolygon(a.Polygon))
	})
}

// CheckLandings returns the first error of landings, or OK.
func CheckLandings(l []Landing) api.Errno {
	checkName := common.Distinct(record.IsName)
	return common.CheckList(l, MaxLandings, func(n Landing) api.Errno {
		return common.First(checkName(n.Name), checkCategory(n.Category), checkTicks(n.Ticks))
	})
}

// CheckMoves returns the first error of moves, or OK.
func CheckMoves(l []Move) api.Errno {
	checkName := common.Distinct(record.IsName)
	return common.CheckList(l, MaxMoves, func(m Move) api.Errno {
		return common.First(checkName(m.Name), checkSize(m.Size), checkBox(m.Box), checkTicks(m.Ticks))
	})
}

// checkMove returns the error of a single move, or OK.
func checkMove(m Move) api.Errno { return CheckMoves([]Move{m}) }

// checkHolds returns the error of holds, or OK.
func checkHolds(l []Hold) api.Errno {
	checkName := common.Distinct(record.IsName)
	return common.CheckList(l, MaxHolds, func(h Hold) api.Errno {
		return common.First(checkName(h.Name), checkPoint(h.At))
	})
}

// CheckFlights returns the first error of flights, or OK.
func CheckFlights(l []Flight) api.Errno {
	checkName := common.Distinct(record.IsName)
	return common.CheckSome(l, api.MaxExact, func(f Flight) api.Errno {
		return common.First(checkName(f.Name), common.Between(f.Kind, 0, MaxKind), checkTick(f.Ready))
	})
}
