package area

import (
	"strconv"
	"strings"

	"glideslope/api"
	"glideslope/common"
)

const areaWord = "area"

// Print returns the string of areas.
func Print(l []Area) (string, api.Errno) {
	if e := CheckAreas(l); e != api.OK {
		return "", e
	}
	return strings.Join(common.Mapped(l, Area.line), ""), api.OK
}

// line returns the line of an area.
func (a Area) line() string {
	numbers := []int{a.Size, a.Category}
	for _, p := range a.Polygon {
		numbers = append(numbers, p.X, p.Y)
	}
	return common.Line(append([]string{areaWord, a.Name}, common.Mapped(numbers, strconv.Itoa)...)...)
}

// Parse returns the areas of a string, and the index of the first line that is wrong.
func Parse(s string) ([]Area, int, api.Errno) { return common.ParseEach(s, readArea, CheckAreas) }

// readArea reads a line, and reports whether it is one of an area.
func readArea(w *common.Words) (Area, bool) {
	take := w.Next
	word, name := take(), take()
	numbers, are := common.Integers(2, take)
	places, arePlaces := common.Integers(w.Left(), take)
	is := word == areaWord && name != "" && are && arePlaces && len(places)%2 == 0
	return Area{name, numbers[0], numbers[1], points(places)}, is
}

// points returns the points of successive pairs of integers.
func points(l []int) []api.Point {
	out := make([]api.Point, len(l)/2)
	for i := range out {
		out[i] = api.Point{X: l[2*i], Y: l[2*i+1]}
	}
	return out
}
