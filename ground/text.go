package ground

import (
	"strings"

	"glideslope/api"
	"glideslope/common"
)

const plateWord = "plate"

// Print returns the string of plates.
func Print(l []Plate) (string, api.Errno) {
	if e := checkPlates(l); e != api.OK {
		return "", e
	}
	return strings.Join(common.Mapped(l, Plate.line), ""), api.OK
}

// line returns the line of a plate.
func (p Plate) line() string {
	return common.NumberLine(plateWord, p.From.X, p.From.Y, p.To.X, p.To.Y, p.Height, p.Factor.Low, p.Factor.High, p.Turn)
}

// Parse returns the plates of a string, and the index of the first line that is wrong.
func Parse(s string) ([]Plate, int, api.Errno) {
	return common.ParseLines(s, plateWord, 8, plateOf, checkPlates)
}

// plateOf returns the plate with both points, a height, the ends of a factor, and a turn.
func plateOf(l []int) Plate {
	return Plate{
		From:   api.Point{X: l[0], Y: l[1]},
		To:     api.Point{X: l[2], Y: l[3]},
		Height: l[4],
		Factor: api.Interval{Low: l[5], High: l[6]},
		Turn:   l[7],
	}
}
