package pulse

import (
	"glideslope/api"
	"glideslope/common"
)

const stationWord = "station"

// Print returns the string of a station.
func Print(s Station) (string, api.Errno) {
	if e := CheckStation(s); e != api.OK {
		return "", e
	}
	numbers := s.numbers()
	return common.NumberLine(stationWord, numbers[:]...), api.OK
}

// stationOf returns the station with numbers in their order.
func stationOf(l [8]int) Station {
	return Station{l[0], l[1], l[2], l[3], l[4], l[5], l[6], l[7]}
}

// Parse returns the station with a string.
func Parse(s string) (Station, int, api.Errno) {
	var numbers [8]int
	lines, e := common.ReadLines(s, func(_ int, w *common.Words) bool {
		take := w.Next
		word := take()
		counts, are := common.Counts(len(numbers), take)
		copy(numbers[:], counts)
		return word == stationWord && are
	})
	if e := common.First(e, common.Failed(lines != 1, api.ErrSyntax)); e != api.OK {
		return Station{}, 0, e
	}
	x := stationOf(numbers)
	if e := CheckStation(x); e != api.OK {
		return Station{}, 1, e
	}
	return x, 0, api.OK
}
