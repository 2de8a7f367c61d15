package aerial

import (
	"slices"

	"glideslope/api"
	"glideslope/common"
)

// crossings returns all crossings of needles.
func crossings(needles []int) []Crossing {
	var l []Crossing
	for i, n := range needles {
		if n == 0 {
			l = append(l, Crossing{i, i})
		} else if i > 0 && n*needles[i-1] < 0 {
			l = append(l, Crossing{i - 1, i})
		}
	}
	return l
}

// course returns the course of needles.
func course(needles []int) (Crossing, api.Errno) {
	l := crossings(needles)
	if e := common.First(common.Failed(len(l) == 0, api.ErrNone), common.Failed(len(l) > 1, api.ErrMany)); e != api.OK {
		return Crossing{}, e
	}
	return l[0], api.OK
}

// Crossings returns all crossings of a scan.
func Crossings(l []Aerial, scan []Direction) ([]Crossing, api.Errno) {
	n, e := Needles(l, scan)
	return crossings(n), e
}

// Course returns the course of a scan.
func Course(l []Aerial, scan []Direction) (Crossing, api.Errno) {
	n, e := Needles(l, scan)
	if e != api.OK {
		return Crossing{}, e
	}
	return course(n)
}

// Width returns the width of a scan by a limit.
func Width(l []Aerial, scan []Direction, limit int) (api.Interval, api.Errno) {
	if e := common.First(CheckArray(l), checkScan(scan), common.Between(limit, 1, MaxNeedle)); e != api.OK {
		return api.Interval{}, e
	}
	n, e := needles(l, scan)
	if e != api.OK {
		return api.Interval{}, e
	}
	c, e := course(n)
	if e != api.OK {
		return api.Interval{}, e
	}
	return width(n, c, limit)
}

// width returns the width of needles with a course by a limit.
func width(needles []int, c Crossing, limit int) (api.Interval, api.Errno) {
	low, high := -1, -1
search:
	for i, n := range needles {
		switch {
		case common.Absolute(n) < limit:
		case i <= c.From:
			low = i
		default: // between From and To there is no index
			high = i
			break search
		}
	}
	if low < 0 || high < 0 {
		return api.Interval{}, api.ErrOpen
	}
	return api.Interval{Low: low, High: high}, api.OK
}

// Clearance returns the clearance of a span of indices, and its index.
func Clearance(l []Aerial, scan []Direction, indices api.Span) (int, int, api.Errno) {
	isSpan := indices.From >= 0 && indices.To > indices.From && indices.To <= len(scan)
	if e := common.First(CheckArray(l), checkScan(scan), common.Failed(!isSpan, api.ErrSpan)); e != api.OK {
		return 0, 0, e
	}
	n, e := needles(l, scan)
	if e != api.OK {
		return 0, 0, e
	}
	sizes := common.Mapped(n[indices.From:indices.To], common.Absolute)
	least := slices.Min(sizes)
	return least, indices.From + slices.Index(sizes, least), api.OK
}
