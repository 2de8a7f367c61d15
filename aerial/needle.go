package aerial

import (
	"slices"

	"glideslope/api"
	"glideslope/common"
)

// held returns a needle that is held within the greatest one, either way.
func held(n int) int { return max(-MaxNeedle, min(MaxNeedle, n)) }

// Needle returns the needle at a direction.
func Needle(l []Aerial, d Direction) (int, api.Errno) {
	if e := common.First(CheckArray(l), CheckDirection(d)); e != api.OK {
		return 0, e
	}
	s := look(l, d)
	return s.needle, common.Failed(s.carrier == 0, api.ErrZero)
}

// needles returns the needle at each direction of a scan, or ErrZero.
func needles(l []Aerial, scan []Direction) ([]int, api.Errno) {
	var out []int
	for s := range looks(l, scan) {
		if s.carrier == 0 {
			return nil, api.ErrZero
		}
		out = append(out, s.needle)
	}
	return out, api.OK
}

// Needles returns the needle at each direction of a scan.
func Needles(l []Aerial, scan []Direction) ([]int, api.Errno) {
	if e := common.First(CheckArray(l), checkScan(scan)); e != api.OK {
		return nil, e
	}
	return needles(l, scan)
}

// Bounds returns the bounds of the needle at a direction, with an error of the feeds.
func Bounds(l []Aerial, d Direction, err int) (api.Interval, api.Errno) {
	if e := common.First(CheckArray(l), CheckDirection(d), common.Between(err, 0, MaxError)); e != api.OK {
		return api.Interval{}, e
	}
	s := look(l, d)
	off := err * s.spread(l)
	var product, square api.Interval
	for _, p := range parts() {
		carrier, side := around(p.of(s.carrier), off), around(p.of(s.side), off)
		product = common.Sums(product, common.Products(side, carrier))
		square = common.Sums(square, common.Squares(carrier))
	}
	if square.Low == 0 {
		return api.Interval{}, api.ErrZero
	}
	return quotients(product, square), api.OK
}

// spread returns the sum of the absolute values of both parts of the phases of aerials.
func (d Direction) spread(l []Aerial) int {
	sum := 0
	for _, a := range l {
		phase := common.Gauss(d.phase(a.At))
		sum += common.Absolute(phase.Re) + common.Absolute(phase.Im)
	}
	return sum
}

// around returns the interval of the numbers that differ from an integer by at most another one.
func around(n float64, by int) api.Interval {
	return api.Interval{Low: int(n) - by, High: int(n) + by}
}

// quotients returns the interval of the needles of a product and a square above 0 in their intervals.
func quotients(product, square api.Interval) api.Interval {
	ends := [2]int{square.Low, square.High}
	down := common.Mapped(ends[:], func(end int) int { return common.Floor(Thousand*product.Low, end) })
	up := common.Mapped(ends[:], func(end int) int { return common.Ceiling(Thousand*product.High, end) })
	return api.Interval{Low: held(slices.Min(down)), High: held(slices.Max(up))}
}
