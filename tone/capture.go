package tone

import (
	"glideslope/api"
	"glideslope/common"
)

// checkTwo returns the first error of two signals and a band, or OK.
func checkTwo(l [2]Signal, band int) api.Errno {
	return common.First(CheckSignal(l[0]), CheckSignal(l[1]), common.Between(band, Whole, MaxBand))
}

// captures reports whether a signal captures a receiver, and not another signal.
func (s Signal) captures(other Signal, band int) bool {
	return int64(s.square())*Whole >= int64(other.square())*int64(band)
}

// captured returns which of two signals captures a receiver.
func captured(l [2]Signal, band int) int {
	for i, s := range l {
		if s.captures(l[1-i], band) {
			return i
		}
	}
	return Both
}

// Captured returns which of two signals captures a receiver.
func Captured(l [2]Signal, band int) (int, api.Errno) {
	if e := checkTwo(l, band); e != api.OK {
		return 0, e
	}
	return captured(l, band), api.OK
}

// Mixed returns the needle of two signals on two frequencies.
func Mixed(l [2]Signal, band int) (api.Ratio, api.Errno) {
	if e := checkTwo(l, band); e != api.OK {
		return api.Ratio{}, e
	}
	if i := captured(l, band); i != Both {
		return l[i].needle().ratio(), api.OK
	}
	a, b := l[0].needle(), l[1].needle()
	return quotient{a.num + b.num, a.den + b.den}.ratio(), api.OK
}
