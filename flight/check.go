package flight

import (
	"glideslope/api"
	"glideslope/common"
	"glideslope/record"
)

// checkPlaces returns the error of an interval of places, or OK.
func checkPlaces(x api.Interval) api.Errno { return common.CheckInterval(x, -MaxPlace, MaxPlace) }

// checkPositions returns the error of an interval of positions, or OK.
func checkPositions(x api.Interval) api.Errno {
	return common.CheckInterval(x, -MaxPosition, MaxPosition)
}

// checkNeedle returns the error of a needle, or of a level, or OK.
func checkNeedle(n int) api.Errno { return common.Between(n, -MaxNeedle, MaxNeedle) }

// checkNeedles returns the error of an interval of needles, or OK.
func checkNeedles(x api.Interval) api.Errno { return common.CheckInterval(x, -MaxNeedle, MaxNeedle) }

// checkOffset returns the error of an offset, or OK.
func checkOffset(x api.Interval) api.Errno {
	return common.CheckInterval(x, -2*MaxNeedle, 2*MaxNeedle)
}

// checkCategory returns the error of a category, or OK.
func checkCategory(category int) api.Errno { return common.Between(category, 1, Categories) }

// checkFixes returns the error of fixes, or OK.
func checkFixes(l []Fix) api.Errno {
	checkName := common.Distinct(record.IsName)
	return common.CheckSome(l, MaxFixes, func(f Fix) api.Errno {
		return common.First(checkName(f.Name), common.CheckList(f.Box[:], len(f.Box), checkPlaces))
	})
}

// checkCalibrations returns the error of calibrations, or OK.
func checkCalibrations(l []Calibration) api.Errno {
	return common.CheckSome(l, MaxCalibrations, func(c Calibration) api.Errno {
		return common.First(checkNeedle(c.Applied), checkNeedle(c.Read))
	})
}

// CheckRun returns the first error of a run, or OK.
func CheckRun(l []Mark) api.Errno {
	ascending := common.Ascending(-MaxPosition - 1)
	return common.CheckSome(l, MaxMarks, func(m Mark) api.Errno {
		return common.First(
			common.Between(m.Position, -MaxPosition, MaxPosition),
			checkNeedle(m.Needle),
			ascending(m.Position))
	})
}

// CheckZones returns the first error of zones, or OK.
func CheckZones(l []Zone) api.Errno {
	before := -MaxPosition - 1
	return common.CheckSome(l, MaxZones, func(z Zone) api.Errno {
		e := common.First(
			checkPositions(z.At),
			common.Failed(z.At.Low <= before, api.ErrOverlap),
			common.Between(z.Limit, 0, MaxNeedle))
		before = z.At.High
		return e
	})
}

// checkFigures returns the error of figures, or OK.
func checkFigures(l []Figure) api.Errno {
	checkName := common.Distinct(record.IsName)
	return common.CheckList(l, MaxFigures, func(f Figure) api.Errno {
		return common.First(checkName(f.Name), checkNeedles(f.Value))
	})
}

// checkTolerances returns the error of tolerances of figures, or OK.
func checkTolerances(l []Tolerance, figures []Figure) api.Errno {
	known, once := common.Indices(figures, Figure.name), common.Once[string]()
	return common.CheckList(l, MaxFigures, func(t Tolerance) api.Errno {
		_, is := known[t.Name]
		return common.First(
			common.Failed(!is, api.ErrUnknown),
			once(t.Name),
			common.CheckList(t.Within[:], Categories, checkNeedles))
	})
}

// CheckReport returns the first error of a report, or OK.
func CheckReport(figures []Figure, tolerances []Tolerance) api.Errno {
	return common.First(checkFigures(figures), checkTolerances(tolerances, figures))
}

// checkWindows returns the error of windows, or OK.
func checkWindows(l []api.Span) api.Errno {
	before := -1
	return common.CheckSome(l, MaxWindows, func(w api.Span) api.Errno {
		e := common.First(common.CheckSpan(w, MaxTick), common.Failed(w.From <= before, api.ErrOverlap))
		before = w.To
		return e
	})
}

// CheckFlights returns the first error of flights, or OK.
func CheckFlights(l []Flight) api.Errno {
	checkName := common.Distinct(record.IsName)
	return common.CheckList(l, api.MaxExact, func(f Flight) api.Errno {
		return common.First(checkName(f.Name), common.Between(f.Time, 1, MaxTime), checkWindows(f.Windows))
	})
}

// checkOrder returns the error of an order of so many flights, or OK.
func checkOrder(order []int, flights int) api.Errno {
	if len(order) != flights {
		return api.ErrShape
	}
	once := common.Once[int]()
	return common.CheckList(order, flights, func(i int) api.Errno {
		return common.First(common.CheckIndex(i, flights), once(i))
	})
}
