package release

import (
	"glideslope/api"
	"glideslope/common"
	"glideslope/record"
)

// checkName returns the error of a name, or OK.
func checkName(s string) api.Errno { return common.Failed(!record.IsName(s), api.ErrName) }

// checkView returns the error of a view, or OK.
func checkView(view int) api.Errno { return common.Between(view, 0, MaxView) }

// checkCategory returns the error of a category, which may be none, or OK.
func checkCategory(category int) api.Errno { return common.Between(category, 0, Categories) }

// checkTick returns the error of a tick, or OK.
func checkTick(tick int) api.Errno { return common.Between(tick, 0, api.MaxTick) }

// checkNumber returns the error of the number of a notice, or OK.
func checkNumber(number int) api.Errno { return common.Between(number, 1, api.MaxNumber) }

// checkAhead returns the error of ticks ahead, or OK.
func checkAhead(ahead int) api.Errno { return common.Between(ahead, 0, MaxAhead) }

// checkLength returns the error of the length of a night, or OK.
func checkLength(length int) api.Errno { return common.Between(length, 0, MaxLength) }

// checkWeather returns the error of a weather, or OK.
func checkWeather(w Weather) api.Errno {
	return common.First(
		common.CheckList(w.Views[:], len(w.Views), checkView),
		common.Between(w.Ceiling, 0, MaxCeiling))
}

// checkEquipment returns the error of equipment, or OK.
func checkEquipment(x Equipment) api.Errno {
	return common.First(checkCategory(x.Signal), checkCategory(x.Lights), common.Between(x.Switch, 0, MaxSwitch))
}

// checkLimits returns the error of the limits of a landing, or OK.
func checkLimits(limits [2]int) api.Errno {
	return common.CheckList(limits[:], len(limits), checkCategory)
}

// CheckRunway returns the first error of a runway, or OK.
func CheckRunway(r Runway) api.Errno {
	if e := checkName(r.Name); e != api.OK {
		return e
	}
	for i := range Categories {
		e := common.First(
			checkWeather(r.Minima[i]),
			checkEquipment(r.Needs[i]),
			common.Failed(i > 0 && !r.isHarder(i), api.ErrOrder))
		if e != api.OK {
			return e
		}
	}
	return api.OK
}

// CheckRule returns the first error of a rule, or OK.
func CheckRule(r Rule) api.Errno {
	return common.First(
		checkView(r.Prepare),
		checkView(r.Enter),
		checkView(r.Leave),
		common.Between(r.Moments, 1, MaxTicks),
		common.Failed(r.Enter > r.Prepare || r.Prepare > r.Leave, api.ErrOrder))
}

// checkMoments returns the error of moments, or OK.
func checkMoments(l []Moment) api.Errno {
	return common.CheckList(l, MaxMoments, func(m Moment) api.Errno { return checkView(m.View) })
}

// checkNotice returns the error of a notice, or OK.
func checkNotice(n Notice) api.Errno {
	return common.First(
		checkNumber(n.Number),
		checkName(n.Runway),
		checkTick(n.Issued),
		checkTick(n.From),
		checkTick(n.Until),
		checkCategory(n.Category),
		common.Failed(n.Issued > n.From || n.From >= n.Until, api.ErrOrder))
}

// CheckNotices returns the first error of notices, or OK.
func CheckNotices(l []Notice) api.Errno {
	ascending := common.Ascending(0)
	return common.CheckList(l, MaxNotices, func(n Notice) api.Errno {
		return common.First(checkNotice(n), ascending(n.Number))
	})
}

// checkChange returns the error of a change, or OK.
func checkChange(c Change) api.Errno {
	return common.First(checkName(c.Runway), checkTick(c.Tick), checkCategory(c.Category))
}

// checkChanges returns the error of changes, or OK.
func checkChanges(l []Change) api.Errno { return common.CheckList(l, MaxChanges, checkChange) }

// CheckWorks returns the first error of works, or OK.
func CheckWorks(l []Work) api.Errno {
	checkNew := common.Distinct(record.IsName)
	return common.CheckList(l, api.MaxExact, func(w Work) api.Errno {
		return common.First(
			checkNew(w.Name),
			checkName(w.Runway),
			common.Between(w.Time, 1, MaxLength),
			common.Between(w.Worth, 0, MaxWorth))
	})
}
