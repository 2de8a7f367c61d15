package aerial

import (
	"strings"

	"glideslope/api"
	"glideslope/common"
)

const aerialWord = "aerial"

// Print returns the string of an array.
func Print(l []Aerial) (string, api.Errno) {
	if e := CheckArray(l); e != api.OK {
		return "", e
	}
	return strings.Join(common.Mapped(l, Aerial.line), ""), api.OK
}

// line returns the line of an aerial.
func (a Aerial) line() string {
	carrier, side := common.Gauss(a.Carrier), common.Gauss(a.Side)
	return common.NumberLine(aerialWord, a.At, carrier.Re, carrier.Im, side.Re, side.Im)
}

// Parse returns the array of a string, or the index of the first line that is wrong.
func Parse(s string) ([]Aerial, int, api.Errno) {
	return common.ParseLines(s, aerialWord, 5, aerialOf, CheckArray)
}

// aerialOf returns the aerial with a distance and the parts of its feeds.
func aerialOf(l []int) Aerial {
	return Aerial{
		At:      l[0],
		Carrier: complex(float64(l[1]), float64(l[2])),
		Side:    complex(float64(l[3]), float64(l[4])),
	}
}
