package monitor

import (
	"glideslope/api"
	"glideslope/common"
	"glideslope/record"
)

// The kinds of sensors.
const (
	integralKind = "integral"
	nearKind     = "near"
	farKind      = "far"
)

// checkKind returns the error of a kind of sensors, or OK.
func checkKind(kind string) api.Errno {
	return common.Failed(kind != integralKind && kind != nearKind && kind != farKind, api.ErrKind)
}

// checkNeedle returns the error of a needle, or OK.
func checkNeedle(n int) api.Errno { return common.Between(n, -MaxNeedle, MaxNeedle) }

// checkLimits returns the error of limits, or OK.
func checkLimits(x api.Interval) api.Errno { return common.CheckInterval(x, -MaxNeedle, MaxNeedle) }

// checkNeedles returns the error of needles of which there have to be so many, or OK.
func checkNeedles(l []int, needles int) api.Errno {
	if len(l) != needles {
		return api.ErrShape
	}
	return common.CheckList(l, needles, checkNeedle)
}

// CheckPlant returns the first error of a plant, or OK.
func CheckPlant(p Plant) api.Errno {
	checkName := common.Distinct(record.IsName)
	return common.First(
		common.CheckSome(p.Sensors, MaxSensors, func(x Sensor) api.Errno {
			return common.First(checkName(x.Name), checkKind(x.Kind), checkLimits(x.Limits), common.Between(x.Delay, 1, MaxDelay))
		}),
		common.Between(p.Need, 1, len(p.Sensors)),
		common.Between(p.Silence, 0, MaxDelay))
}

// checkReading returns the error of a reading, or OK.
func checkReading(r Reading) api.Errno {
	return common.First(checkNeedle(r.Needle), common.Failed(r.Missing && r.Needle != 0, api.ErrForm))
}

// CheckSeconds returns the first error of seconds of a plant, or OK.
func CheckSeconds(p Plant, l []Second) api.Errno {
	if e := CheckPlant(p); e != api.OK {
		return e
	}
	sensors := len(p.Sensors)
	return common.CheckList(l, MaxSeconds, func(x Second) api.Errno {
		if len(x.Readings) != sensors {
			return api.ErrShape
		}
		return common.First(
			common.CheckList(x.Readings, sensors, checkReading),
			common.Failed(x.Command < None || x.Command > Reset, api.ErrKind))
	})
}

// CheckFailures returns the first error of failures of a plant, or OK.
func CheckFailures(p Plant, l []Failure) api.Errno {
	if e := CheckPlant(p); e != api.OK {
		return e
	}
	checkName := common.Distinct(record.IsName)
	return common.CheckList(l, MaxFailures, func(f Failure) api.Errno {
		return common.First(
			checkName(f.Name),
			checkNeedle(f.True),
			checkNeedles(f.Needles, len(p.Sensors)),
			common.Between(f.Rate, 0, MaxRate))
	})
}

// CheckChecks returns the first error of checks, or OK.
func CheckChecks(l []Check) api.Errno {
	checkName := common.Distinct(record.IsName)
	return common.CheckList(l, MaxChecks, func(c Check) api.Errno {
		return common.First(checkName(c.Name), common.Between(c.Every, 1, MaxEvery), common.Between(c.Last, 0, api.MaxDay))
	})
}
