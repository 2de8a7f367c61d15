package aerial_test

import (
	"math"
	"slices"
	"testing"

	"glideslope/aerial"
	"glideslope/api"
)

// The tests of this file are those of P3.2.

func crossing(from, to int) aerial.Crossing { return aerial.Crossing{From: from, To: to} }

// Directions by the needles of the array A there.
var rows = map[int]aerial.Direction{
	400: direction(0, -1, 1), 369: direction(5, -12, 13), 320: direction(3, -4, 5), 240: direction(4, -3, 5), 154: direction(12, -5, 13), 0: straight,
	-400: direction(0, 1, 1), -369: direction(5, 12, 13), -320: direction(3, 4, 5), -240: direction(4, 3, 5), -154: direction(12, 5, 13),
}

// row returns the scan with these needles of the array A.
func row(needles ...int) []aerial.Direction {
	var l []aerial.Direction
	for _, n := range needles {
		l = append(l, rows[n])
	}
	return l
}

func TestRows(t *testing.T) {
	for n, d := range rows {
		same(t, "Needle", needleResults(example(), d), all(n, api.OK))
	}
}

func TestCrossings(t *testing.T) {
	for _, x := range []struct {
		needles []int
		l       []aerial.Crossing
	}{
		{[]int{240, 0, -240}, []aerial.Crossing{crossing(1, 1)}}, {[]int{240, -240}, []aerial.Crossing{crossing(0, 1)}}, {[]int{-240, 240}, []aerial.Crossing{crossing(0, 1)}},
		{[]int{240, 400, 154}, nil}, {[]int{-240, -400}, nil},
		{[]int{0, 0}, []aerial.Crossing{crossing(0, 0), crossing(1, 1)}}, {[]int{0, 240}, []aerial.Crossing{crossing(0, 0)}}, {[]int{240, 0}, []aerial.Crossing{crossing(1, 1)}},
		{[]int{240, 0, 240}, []aerial.Crossing{crossing(1, 1)}}, {[]int{240, 0, 0, -240}, []aerial.Crossing{crossing(1, 1), crossing(2, 2)}},
		{[]int{240, -240, 240, 0, -240, 240, 240, -240}, []aerial.Crossing{crossing(0, 1), crossing(1, 2), crossing(3, 3), crossing(4, 5), crossing(6, 7)}},
	} {
		l, e := aerial.Crossings(example(), row(x.needles...))
		same(t, "Crossings", all(x.needles, l, e), all(x.needles, x.l, api.OK))
	}
	l, e := aerial.Crossings(one(10, 3), scan())
	same(t, "Crossings of a needle that does not change", all(l, e), all([]aerial.Crossing{}, api.OK))
	for _, side := range []complex128{1 - 1i, -1 + 1i} {
		l, e = aerial.Crossings(wide(side), slices.Repeat([]aerial.Direction{straight}, 2))
		same(t, "Crossings of needles that are nearly 0", all(l, e), all([]aerial.Crossing{crossing(0, 0), crossing(1, 1)}, api.OK))
	}
	r := numbers{11}
	for range 500 {
		a, s := r.sized(), r.scan()
		needles, is := needlesOf(a, s)
		l, e := aerial.Crossings(a, s)
		same(t, "Crossings", all(a, s, l, e), all(a, s, crossingsOf(needles), errorUnless(is)))
	}
}

// wide returns an array whose carrier field straight ahead is 800 + 799i, so that the needle of the side field 1 - i is above 0, but rounded to 0.
func wide(side complex128) []aerial.Aerial {
	l := []aerial.Aerial{{At: -4, Carrier: 100 + 99i, Side: side}}
	for at := -3; at < 4; at++ {
		l = append(l, aerial.Aerial{At: at, Carrier: 100 + 100i})
	}
	return l
}

func TestCourse(t *testing.T) {
	for _, x := range []struct {
		needles []int
		c       aerial.Crossing
		e       api.Errno
	}{
		{[]int{240, 0, -240}, crossing(1, 1), api.OK}, {[]int{240, -240}, crossing(0, 1), api.OK}, {[]int{400, 240, 154, -154, -400}, crossing(2, 3), api.OK}, {[]int{240, 0}, crossing(1, 1), api.OK}, {[]int{0, 240}, crossing(0, 0), api.OK},
		{[]int{240, 400}, crossing(0, 0), api.ErrNone}, {[]int{-240, -400}, crossing(0, 0), api.ErrNone},
		{[]int{0, 0}, crossing(0, 0), api.ErrMany}, {[]int{240, -240, 240}, crossing(0, 0), api.ErrMany}, {[]int{240, 0, -240, 240}, crossing(0, 0), api.ErrMany},
	} {
		c, e := aerial.Course(example(), row(x.needles...))
		same(t, "Course", all(x.needles, c, e), all(x.needles, x.c, x.e))
	}
}

func TestWidth(t *testing.T) {
	for _, x := range []struct {
		needles []int
		limit   int
		w       api.Interval
		e       api.Errno
	}{
		{[]int{240, 0, -240}, 240, interval(0, 2), api.OK}, {[]int{240, 0, -240}, 241, api.Interval{}, api.ErrOpen}, {[]int{240, 0, -240}, 1, interval(0, 2), api.OK},
		{[]int{240, -240}, 240, interval(0, 1), api.OK}, {[]int{240, -240}, 241, api.Interval{}, api.ErrOpen}, {[]int{-400, 240}, 240, interval(0, 1), api.OK},
		{[]int{400, 320, 240, 154, -154, -240, -320, -400}, 154, interval(3, 4), api.OK},
		{[]int{400, 320, 240, 154, -154, -240, -320, -400}, 155, interval(2, 5), api.OK},
		{[]int{400, 320, 240, 154, -154, -240, -320, -400}, 300, interval(1, 6), api.OK},
		{[]int{400, 320, 240, 154, -154, -240, -320, -400}, 400, interval(0, 7), api.OK},
		{[]int{400, 320, 240, 154, -154, -240, -320, -400}, 401, api.Interval{}, api.ErrOpen},
		{[]int{400, 154, 240, 0, -154, -320, -154, -400}, 240, interval(2, 5), api.OK},                                   // the nearest on both sides
		{[]int{400, 154, 240, 0, -154, -320, -154, -400}, 321, interval(0, 7), api.OK},                                   // not the last on one side
		{[]int{154, 0, -240}, 240, api.Interval{}, api.ErrOpen}, {[]int{240, 0, -154}, 240, api.Interval{}, api.ErrOpen}, // one side is open
		{[]int{0, -240}, 1, api.Interval{}, api.ErrOpen}, {[]int{240, 0}, 1, api.Interval{}, api.ErrOpen},
		{[]int{240, 0, -240}, 1000000, api.Interval{}, api.ErrOpen},
		{[]int{240, 154}, 154, api.Interval{}, api.ErrNone}, {[]int{240, 0, 0, -240}, 1, api.Interval{}, api.ErrMany}, {[]int{240, -240, 0}, 1, api.Interval{}, api.ErrMany},
		{[]int{240, 154}, 1000, api.Interval{}, api.ErrNone}, {[]int{240, -240, 0}, 1000, api.Interval{}, api.ErrMany}, // before ErrOpen
		{[]int{240, 0, -240}, 0, api.Interval{}, api.ErrRange}, {[]int{240, 0, -240}, -1, api.Interval{}, api.ErrRange}, {[]int{240, 0, -240}, 1000001, api.Interval{}, api.ErrRange}, {[]int{240, 154}, math.MinInt, api.Interval{}, api.ErrRange},
	} {
		w, e := aerial.Width(example(), row(x.needles...), x.limit)
		same(t, "Width", all(x.needles, x.limit, w, e), all(x.needles, x.limit, x.w, x.e))
	}
	r := numbers{13}
	courses := 0
	for range 3000 {
		a, s, limit := r.sized(), r.scan(), 1+r.below(400)
		s = s[:min(len(s), 2+r.below(5))]
		if r.below(2) == 0 {
			a = example()
		}
		c, e := aerial.Course(a, s)
		if e != api.OK {
			w, f := aerial.Width(a, s, limit)
			same(t, "Width without a course", all(w, f), all(api.Interval{}, e))
			continue
		}
		courses++
		needles, _ := needlesOf(a, s)
		same(t, "crossing", all(crossingsOf(needles)), all([]aerial.Crossing{c}))
		want, e := widthOf(needles, c, limit)
		w, f := aerial.Width(a, s, limit)
		same(t, "Width", all(needles, limit, w, f), all(needles, limit, want, e))
	}
	same(t, "are there courses", all(courses > 100), all(true))
}

// widthOf is the width of needles with a course.
func widthOf(needles []int, c aerial.Crossing, limit int) (api.Interval, api.Errno) {
	low, high := c.From, c.To
	for low >= 0 && absolute(needles[low]) < limit {
		low--
	}
	for high < len(needles) && absolute(needles[high]) < limit {
		high++
	}
	if low < 0 || high == len(needles) {
		return api.Interval{}, api.ErrOpen
	}
	return interval(low, high), api.OK
}

func TestClearance(t *testing.T) {
	for _, x := range []struct {
		needles []int
		s       api.Span
		n, at   int
		e       api.Errno
	}{
		{[]int{240, 0, -240}, span(0, 3), 0, 1, api.OK}, {[]int{240, 0, -240}, span(0, 1), 240, 0, api.OK}, {[]int{240, 0, -240}, span(2, 3), 240, 2, api.OK},
		{[]int{400, -240, 240, 320, -154}, span(0, 4), 240, 1, api.OK}, {[]int{400, -240, 240, 320, -154}, span(2, 4), 240, 2, api.OK}, {[]int{400, -240, 240, 320, -154}, span(0, 5), 154, 4, api.OK}, {[]int{400, -240, 240, 320, -154}, span(3, 4), 320, 3, api.OK},
		{[]int{-154, 154}, span(0, 2), 154, 0, api.OK}, {[]int{0, 0, 0}, span(1, 3), 0, 1, api.OK},
		{[]int{240, 0, -240}, span(-1, 3), 0, 0, api.ErrSpan}, {[]int{240, 0, -240}, span(0, 4), 0, 0, api.ErrSpan}, {[]int{240, 0, -240}, span(1, 1), 0, 0, api.ErrSpan}, {[]int{240, 0, -240}, span(2, 1), 0, 0, api.ErrSpan}, {[]int{240, 0, -240}, span(3, 3), 0, 0, api.ErrSpan}, {[]int{240, 0, -240}, span(3, 4), 0, 0, api.ErrSpan}, {[]int{240, 0, -240}, span(math.MinInt, math.MaxInt), 0, 0, api.ErrSpan}, {[]int{240, 0, -240}, span(math.MaxInt, math.MinInt), 0, 0, api.ErrSpan},
	} {
		n, at, e := aerial.Clearance(example(), row(x.needles...), x.s)
		same(t, "Clearance", all(x.needles, x.s, n, at, e), all(x.needles, x.s, x.n, x.at, x.e))
	}
}

// courseResults returns the results of all functions of this file.
func courseResults(l []aerial.Aerial, scan []aerial.Direction, limit int, s api.Span) []any {
	a, e := aerial.Crossings(l, scan)
	b, f := aerial.Course(l, scan)
	c, g := aerial.Width(l, scan, limit)
	d, at, h := aerial.Clearance(l, scan, s)
	return all(a, e, b, f, c, g, d, at, h)
}

// nothing returns results of these functions with one error.
func nothing(e api.Errno) []any {
	return all([]aerial.Crossing{}, e, aerial.Crossing{}, e, api.Interval{}, e, 0, 0, e)
}

func TestErrorsOfCourses(t *testing.T) {
	for i, x := range badArrays() {
		same(t, "errors of an array", all(i, courseResults(x.l, nil, 0, span(1, 0))), all(i, nothing(x.e)))
	}
	for i, x := range badScans() {
		same(t, "errors of a scan", all(i, courseResults(one(0, 0), x.l, 0, span(1, 0))), all(i, nothing(x.e)))
	}
	// a carrier field that is 0 is an error everywhere, also outside of a span
	for _, s := range [][]aerial.Direction{{back, straight}, {straight, back}} {
		for i := range 2 {
			same(t, "no carrier field", all(s, courseResults(dark(), s, 1, span(i, i+1))), all(s, nothing(api.ErrZero)))
		}
	}
	_, e := aerial.Width(dark(), []aerial.Direction{back, straight}, 0)
	same(t, "Width with both errors", all(e), all(api.ErrRange))
	_, _, e = aerial.Clearance(dark(), []aerial.Direction{back, straight}, span(0, 3))
	same(t, "Clearance with both errors", all(e), all(api.ErrSpan))
}
