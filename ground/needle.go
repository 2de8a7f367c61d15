package ground

import (
	"glideslope/api"
	"glideslope/common"
)

// limited returns a needle that is limited to its range.
func limited(n int) int { return max(-MaxNeedle, min(MaxNeedle, n)) }

// needle returns the needle of two fields, and whether there is one.
func (p pair) needle() (int, bool) {
	carrier, sideband := p[0], p[1]
	if carrier == 0 {
		return 0, false
	}
	square := common.Along(carrier, carrier)
	return limited(common.Floor(Whole*common.Along(sideband, carrier), square)), true
}

// Needle returns the needle of two fields.
func Needle(carrier, sideband api.Gauss) (int, api.Errno) {
	if e := common.CheckParts(MaxField, carrier, sideband); e != api.OK {
		return 0, e
	}
	n, is := pair{common.Complex(carrier), common.Complex(sideband)}.needle()
	return n, common.Failed(!is, api.ErrZero)
}

// each returns what there is at each mark, or ErrZero if there is nothing at one.
func each[T any](marks []api.Vector, at func(mark api.Vector) (T, bool)) ([]T, api.Errno) {
	l := make([]T, len(marks))
	for i := range len(marks) {
		x, is := at(marks[i])
		if !is {
			return nil, api.ErrZero
		}
		l[i] = x
	}
	return l, api.OK
}

// Needles returns the needles at marks.
func Needles(x Scene, factors []int, marks []api.Vector) ([]int, api.Errno) {
	if e := common.First(CheckFactors(x, factors), checkMarks(marks)); e != api.OK {
		return nil, e
	}
	return each(marks, func(mark api.Vector) (int, bool) { return x.fields(factors, mark).needle() })
}

// plus returns a box with a number added, times all factors of an interval.
func (b Box) plus(x complex128, factor api.Interval) Box {
	g := common.Gauss(x)
	return Box{
		Re: common.Sums(b.Re, common.Products(common.Exactly(g.Re), factor)),
		Im: common.Sums(b.Im, common.Products(common.Exactly(g.Im), factor)),
	}
}

// boxes returns the boxes at a mark. What arrives by one factor is added up before its interval is, because the factor is the same for all sources.
func (x Scene) boxes(mark api.Vector) [2]Box {
	direct, others := x.arriving(mark)
	bands := x.bands()
	var boxes [2]Box
	for k := range boxes {
		boxes[k] = Box{}.plus(direct[k], common.Exactly(Whole))
		for i, p := range others {
			boxes[k] = boxes[k].plus(p[k], bands[i])
		}
	}
	return boxes
}

// Boxes returns the boxes of both fields at a mark.
func Boxes(x Scene, mark api.Vector) ([2]Box, api.Errno) {
	if e := common.First(CheckScene(x), checkPlace(mark)); e != api.OK {
		return [2]Box{}, e
	}
	return x.boxes(mark), api.OK
}

// end is one of both ends of an interval.
type end struct {
	of    func(x api.Interval) int
	other func(x api.Interval) int
}

// ends returns the low and the high end.
func ends() [2]end {
	low := func(x api.Interval) int { return x.Low }
	high := func(x api.Interval) int { return x.High }
	return [2]end{{low, high}, {high, low}}
}

// quotient returns the end of the needles with a numerator and a denominator above 0 in their intervals.
func (e end) quotient(num, den api.Interval) int {
	n, d := e.of(num), e.of(den)
	if n >= 0 {
		d = e.other(den)
	}
	return limited(common.Floor(Whole*n, d))
}

// bounds returns the bounds of the needle of two boxes, and whether there are any.
func bounds(boxes [2]Box) (api.Interval, bool) {
	carrier, sideband := boxes[0], boxes[1]
	num := common.Sums(common.Products(sideband.Re, carrier.Re), common.Products(sideband.Im, carrier.Im))
	den := common.Sums(common.Squares(carrier.Re), common.Squares(carrier.Im))
	if den.Low == 0 {
		return api.Interval{}, false
	}
	var out [2]int
	for i, e := range ends() {
		out[i] = e.quotient(num, den)
	}
	return api.Interval{Low: out[0], High: out[1]}, true
}

// Bounds returns the bounds of the needle of two boxes.
func Bounds(boxes [2]Box) (api.Interval, api.Errno) {
	if e := checkBoxes(boxes); e != api.OK {
		return api.Interval{}, e
	}
	b, are := bounds(boxes)
	return b, common.Failed(!are, api.ErrZero)
}

// Enclosed returns the bounds of the needle at each mark.
func Enclosed(x Scene, marks []api.Vector) ([]api.Interval, api.Errno) {
	if e := common.First(CheckScene(x), checkMarks(marks)); e != api.OK {
		return nil, e
	}
	return each(marks, func(mark api.Vector) (api.Interval, bool) { return bounds(x.boxes(mark)) })
}
