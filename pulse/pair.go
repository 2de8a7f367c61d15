package pulse

import (
	"glideslope/api"
	"glideslope/common"
)

// inPair takes the place of a pulse that is in a pair.
const inPair = -1

// paired returns the first pulses of all pairs, and the pulses that are in none.
func paired(pulses []int, spacing, tolerance int) (firsts, alone []int) {
	apart := api.Interval{Low: spacing - tolerance, High: spacing + tolerance}
	left := make([]int, len(pulses))
	copy(left, pulses)
search:
	for i, first := range pulses {
		if left[i] == inPair {
			continue
		}
		for j := i + 1; j < len(left); j++ {
			if left[j] != inPair && common.Within(left[j]-first, apart) {
				left[i], left[j] = inPair, inPair
				firsts = append(firsts, first)
				continue search
			}
		}
	}
	return firsts, common.Where(left, func(pulse int) bool { return pulse != inPair })
}

// checkPairs returns the first error of pulses, a spacing and a tolerance, or OK.
func checkPairs(pulses []int, spacing, tolerance int) api.Errno {
	return common.First(
		checkPulses(pulses),
		common.Between(spacing, 1, MaxSpacing),
		common.Failed(tolerance < 0 || tolerance >= spacing, api.ErrRange))
}

// Pairs returns the ticks of the first pulses of all pairs.
func Pairs(pulses []int, spacing, tolerance int) ([]int, api.Errno) {
	if e := checkPairs(pulses, spacing, tolerance); e != api.OK {
		return nil, e
	}
	firsts, _ := paired(pulses, spacing, tolerance)
	return firsts, api.OK
}

// Alone returns the pulses that belong to no pair.
func Alone(pulses []int, spacing, tolerance int) ([]int, api.Errno) {
	if e := checkPairs(pulses, spacing, tolerance); e != api.OK {
		return nil, e
	}
	_, alone := paired(pulses, spacing, tolerance)
	return alone, api.OK
}
