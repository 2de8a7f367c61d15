package monitor

import (
	"glideslope/api"
	"glideslope/common"
)

func (x Sensor) name() string  { return x.Name }
func (f Failure) name() string { return f.Name }

// sees reports whether a needle is not within the limits of a sensor.
func (x Sensor) sees(needle int) bool { return !common.Within(needle, x.Limits) }

// vote reports whether sensors vote.
func (p Plant) vote(l []Sensor) bool {
	nearer := common.Where(l, func(x Sensor) bool { return x.Kind != farKind })
	return len(l) >= p.Need && len(nearer) > 0
}

// voteAfter returns the least number of seconds for which those of some sensors with at most this delay vote, or 0 if they do not vote.
func (p Plant) voteAfter(l []Sensor) int {
	after := 0
search:
	for seconds := range MaxDelay + 1 {
		var quick []Sensor
		for _, x := range l {
			if x.Delay > seconds {
				continue
			}
			quick = append(quick, x)
			if p.vote(quick) {
				after = seconds
				break search
			}
		}
	}
	return after
}

// seers returns the sensors of a set that see a failure.
func (p Plant) seers(s set, f Failure) []Sensor {
	var l []Sensor
	for _, i := range s {
		if p.Sensors[i].sees(f.Needles[i]) {
			l = append(l, p.Sensors[i])
		}
	}
	return l
}

// seenAfter returns after how many seconds a failure is seen, or 0 if it is not.
func (p Plant) seenAfter(f Failure) int { return p.voteAfter(p.seers(p.all(), f)) }

// Seen reports whether a failure is seen, and after how many seconds.
func Seen(p Plant, f Failure) (bool, int, api.Errno) {
	if e := CheckFailures(p, []Failure{f}); e != api.OK {
		return false, 0, e
	}
	after := p.seenAfter(f)
	return after > 0, after, api.OK
}

// study is failures of a plant, and the limits by which they are hazardous.
type study struct {
	Plant
	failures []Failure
	limits   api.Interval
}

// check returns the first error of a study, or OK.
func (x study) check() api.Errno {
	return common.First(CheckFailures(x.Plant, x.failures), checkLimits(x.limits))
}

// isHazardous reports whether a failure is hazardous.
func (x study) isHazardous(f Failure) bool { return !common.Within(f.True, x.limits) }

// isMissed reports whether a failure is hazardous, and a set does not see it.
func (x study) isMissed(s set, f Failure) bool { return x.isHazardous(f) && !x.vote(x.seers(s, f)) }

// isHidden reports whether a failure is hazardous, and not seen.
func (x study) isHidden(f Failure) bool { return x.isMissed(x.all(), f) }

// hidden returns the failures that are hazardous and not seen.
func (x study) hidden() []Failure { return common.Where(x.failures, x.isHidden) }

// Hidden returns the names of the failures that are hazardous and not seen.
func Hidden(p Plant, l []Failure, limits api.Interval) ([]string, api.Errno) {
	x := study{p, l, limits}
	if e := x.check(); e != api.OK {
		return nil, e
	}
	return common.Mapped(x.hidden(), Failure.name), api.OK
}

// pair is what two failures are together, with the names of both and the product of their rates.
type pair struct {
	Failure
	names [2]string
}

// with returns the pair of a failure and another one.
func (f Failure) with(o Failure) pair {
	needles := make([]int, len(f.Needles))
	for i := range needles {
		needles[i] = f.Needles[i] + o.Needles[i]
	}
	return pair{
		Failure: Failure{True: f.True + o.True, Needles: needles, Rate: f.Rate * o.Rate},
		names:   [2]string{f.Name, o.Name},
	}
}

// hiddenPairs returns the hidden pairs in their order.
func (x study) hiddenPairs() []pair {
	unseen := common.Where(x.failures, func(f Failure) bool { return x.seenAfter(f) == 0 })
	var l []pair
	for i, f := range unseen {
		for _, o := range unseen[i+1:] {
			if both := f.with(o); x.isHidden(both.Failure) {
				l = append(l, both)
			}
		}
	}
	return l
}

// Pairs returns the names of the pairs of failures that are hazardous and not seen.
func Pairs(p Plant, l []Failure, limits api.Interval) ([][2]string, api.Errno) {
	x := study{p, l, limits}
	if e := x.check(); e != api.OK {
		return nil, e
	}
	return common.Mapped(x.hiddenPairs(), func(both pair) [2]string { return both.names }), api.OK
}

// Needless returns the names of the failures that are seen, and not hazardous.
func Needless(p Plant, l []Failure, limits api.Interval) ([]string, api.Errno) {
	x := study{p, l, limits}
	if e := x.check(); e != api.OK {
		return nil, e
	}
	needless := common.Where(l, func(f Failure) bool { return !x.isHazardous(f) && x.seenAfter(f) > 0 })
	return common.Mapped(needless, Failure.name), api.OK
}

// Worst returns the greatest number of seconds after which a hazardous failure is seen.
func Worst(p Plant, l []Failure, limits api.Interval) (int, api.Errno) {
	x := study{p, l, limits}
	if e := x.check(); e != api.OK {
		return 0, e
	}
	worst := 0
	for _, f := range common.Where(l, x.isHazardous) {
		worst = max(worst, x.seenAfter(f))
	}
	return worst, common.Failed(worst == 0, api.ErrNone)
}

// Risk returns the risk of a period.
func Risk(p Plant, l []Failure, limits api.Interval, period int) (int, api.Errno) {
	x := study{p, l, limits}
	if e := common.First(x.check(), common.Between(period, 0, MaxPeriod)); e != api.OK {
		return 0, e
	}
	sum := 0
	for _, f := range x.hidden() {
		sum += MaxRate * f.Rate
	}
	for _, both := range x.hiddenPairs() {
		sum += both.Rate
	}
	return period * sum, api.OK
}
