package monitor

import (
	"slices"

	"glideslope/api"
	"glideslope/common"
)

func (c Check) name() string { return c.Name }

// from returns the first day on which a check is due.
func (c Check) from() int { return c.Last + c.Every }

// Due returns the names of the checks that are due on a day.
func Due(l []Check, day int) ([]string, api.Errno) {
	if e := common.First(CheckChecks(l), common.Between(day, 0, 2*api.MaxDay)); e != api.OK {
		return nil, e
	}
	due := common.Where(l, func(c Check) bool { return day >= c.from() })
	return common.Mapped(due, Check.name), api.OK
}

// Next returns the first day on which a check is due.
func Next(l []Check) (int, api.Errno) {
	if e := common.First(CheckChecks(l), common.Failed(len(l) == 0, api.ErrEmpty)); e != api.OK {
		return 0, e
	}
	return slices.Min(common.Mapped(l, Check.from)), api.OK
}
