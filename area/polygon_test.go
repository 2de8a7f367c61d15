package area_test

import (
	"slices"
	"testing"

	"glideslope/api"
	"glideslope/area"
)

// The tests of this file are those of P5.1.

// checkedIn, and the functions below like it, return all results of a call as a list.
func checkedIn(l []api.Point, p api.Point) []any {
	is, e := area.In(l, p)
	return all(is, e)
}

func sized(l []api.Point) []any {
	n, e := area.Size(l)
	return all(n, e)
}

func met(l []api.Point, b area.Box) []any {
	is, e := area.Meets(l, b)
	return all(is, e)
}

func TestCheckPolygon(t *testing.T) {
	good := [][]api.Point{
		triangle, sens.Polygon, polygon(0, 6, 0, 0, 6, 0), polygon(0, 0, 1, 0, 0, 1), polygon(0, 0, 2, 1, 1, 1),
		polygon(0, 0, 3, 0, 5, 1, 6, 3, 6, 5, 5, 7, 3, 8, 0, 8), polygon(1, 0, 2, 0, 3, 1, 3, 2, 2, 3, 1, 3, 0, 2, 0, 1),
		polygon(-1000000, -1000000, 1000000, -1000000, 1000000, 1000000, -1000000, 1000000), polygon(-1000000, -1000000, 1000000, 999999, -999999, -999998),
	}
	for _, l := range good {
		for range l {
			l = append(l[1:len(l):len(l)], l[0])
			same(t, "CheckPolygon", all(l, area.CheckPolygon(l)), all(l, api.OK))
			back := slices.Clone(l)
			slices.Reverse(back)
			same(t, "CheckPolygon to the right", all(back, area.CheckPolygon(back)), all(back, api.ErrForm))
		}
	}
	for _, x := range badPolygons() {
		same(t, "CheckPolygon", all(x.x, area.CheckPolygon(x.x)), all(x.x, x.e))
	}
}

func TestPolygonsAreHulls(t *testing.T) {
	r := numbers{1}
	count := map[bool]int{}
	for i := range 40000 {
		l := make([]api.Point, 3+r.below(6))
		far := r.far()
		for k := range l {
			l[k] = r.point(far)
		}
		if i%2 == 0 { // what is nearly a polygon
			l = r.polygon(far)
			if r.below(2) == 0 {
				l[r.below(len(l))] = r.point(far)
			}
			if len(l) < 8 && r.below(2) == 0 {
				l = slices.Insert(l, r.below(len(l)+1), l[r.below(len(l))])
			}
		}
		is := isPolygonOf(l)
		count[is]++
		e := map[bool]api.Errno{true: api.OK, false: api.ErrForm}[is]
		same(t, "CheckPolygon", all(l, area.CheckPolygon(l)), all(l, e))
	}
	same(t, "are there polygons and others", all(count[true] > 5000, count[false] > 5000), all(true, true))
}

func TestIn(t *testing.T) {
	for _, x := range []struct {
		p  api.Point
		is bool
	}{
		{point(3, 3), true}, {point(4, 3), false}, {point(0, 0), true}, {point(6, 0), true}, {point(0, 6), true}, {point(1, 1), true}, {point(0, 3), true}, {point(3, 0), true},
		{point(7, 0), false}, {point(0, 7), false}, {point(-1, 0), false}, {point(0, -1), false}, {point(-1, 7), false}, {point(7, -1), false}, {point(1000000, 1000000), false}, {point(-1000000, -1000000), false},
	} {
		same(t, "In", all(x.p, checkedIn(triangle, x.p)), all(x.p, all(x.is, api.OK)))
	}
	r := numbers{2}
	count := 0
	for range 20000 {
		far := r.far()
		l, p := r.polygon(far), r.point(far)
		switch r.below(4) {
		case 0: // a corner
			p = l[r.below(len(l))]
		case 1: // near a corner
			p = l[r.below(len(l))]
			p = point(max(-1000000, min(1000000, p.X+r.within(1))), max(-1000000, min(1000000, p.Y+r.within(1))))
		}
		is := inOf(l, p)
		if is {
			count++
		}
		same(t, "In", all(l, p, checkedIn(l, p)), all(l, p, all(is, api.OK)))
	}
	same(t, "are there points in and out", all(count > 4000, count < 16000), all(true, true))
}

func TestSize(t *testing.T) {
	for _, x := range []struct {
		l []api.Point
		n int
	}{
		{triangle, 36}, {sens.Polygon, 200}, {polygon(0, 0, 1, 0, 0, 1), 1}, {polygon(-5, -5, -4, -5, -4, -4, -5, -4), 2},
		{polygon(-1000000, -1000000, 1000000, -1000000, 1000000, 1000000, -1000000, 1000000), 8000000000000}, {polygon(-1000000, -1000000, 1000000, 999999, -999999, -999998), 2000001},
	} {
		same(t, "Size", all(x.l, sized(x.l)), all(x.l, all(x.n, api.OK)))
	}
	r := numbers{3}
	for range 5000 {
		l := r.polygon(r.far())
		same(t, "Size", all(l, sized(l)), all(l, all(sizeOf(l), api.OK)))
	}
}

// Pick's theorem: the size is twice the number of points, less that of the points on edges, less 2.
func TestSizeByCountedPoints(t *testing.T) {
	r := numbers{4}
	for range 300 {
		l := r.polygon(10)
		points, onEdges := 0, 0
		for i := range 21 * 21 {
			p := point(i/21-10, i%21-10)
			if is, _ := area.In(l, p); is {
				points++
			}
			for k, a := range l {
				b := l[(k+1)%len(l)]
				isBetween := min(a.X, b.X) <= p.X && p.X <= max(a.X, b.X) && min(a.Y, b.Y) <= p.Y && p.Y <= max(a.Y, b.Y)
				if crossOf(a, b, p) == 0 && isBetween && p != b {
					onEdges++
				}
			}
		}
		same(t, "Size", all(l, sized(l)), all(l, all(2*points-onEdges-2, api.OK)))
	}
}

func TestMeets(t *testing.T) {
	slim := polygon(0, 0, 7, 5, 1, 1) // has hardly any points with integers
	for _, x := range []struct {
		l  []api.Point
		b  area.Box
		is bool
	}{
		{triangle, box(4, 3, 9, 9), false}, {triangle, box(3, 3, 9, 9), true}, {triangle, box(2, 2, 9, 9), true},
		{triangle, box(3, 3, 3, 3), true}, {triangle, box(4, 3, 4, 3), false}, {triangle, box(1, 1, 2, 2), true}, {triangle, box(-9, -9, 9, 9), true}, // a point, within, around
		{triangle, box(6, 0, 9, 9), true}, {triangle, box(-9, 6, 0, 9), true}, {triangle, box(-9, -9, 0, 0), true}, {triangle, box(7, 0, 9, 9), false}, {triangle, box(-9, 7, 0, 9), false}, {triangle, box(-9, -9, -1, -1), false}, // at a corner
		{triangle, box(-9, 1, 0, 2), true}, {triangle, box(-9, 1, -1, 2), false}, {triangle, box(1, -9, 2, 0), true}, {triangle, box(1, -9, 2, -1), false}, // at an edge
		{triangle, box(-9, 1, 9, 1), true}, {triangle, box(2, -9, 2, 9), true}, {triangle, box(4, 3, 4, 9), false}, {triangle, box(4, 2, 4, 9), true}, {triangle, box(4, -9, 4, 9), true}, {triangle, box(4, 3, 9, 3), false}, {triangle, box(-9, 7, 9, 7), false}, // flat
		{slim, box(2, 0, 2, 9), true}, {slim, box(2, 2, 2, 2), false}, {slim, box(4, 3, 4, 3), true}, {slim, box(3, 2, 6, 4), true}, {slim, box(2, 2, 3, 9), true}, {slim, box(2, 2, 2, 9), false}, {slim, box(3, 0, 4, 2), false},
		{polygon(0, 5, 5, 0, 10, 5, 5, 10), box(0, 0, 2, 2), false}, {polygon(0, 5, 5, 0, 10, 5, 5, 10), box(0, 0, 2, 3), true}, {polygon(0, 5, 5, 0, 10, 5, 5, 10), box(8, 8, 10, 10), false}, {polygon(0, 5, 5, 0, 10, 5, 5, 10), box(8, 7, 10, 10), true},
	} {
		same(t, "Meets", all(x.l, x.b, met(x.l, x.b)), all(x.l, x.b, all(x.is, api.OK)))
	}
}

func TestMeetsAgainstDefinition(t *testing.T) {
	r := numbers{5}
	count := 0
	for range 6000 {
		far := r.far()
		l, b := r.polygon(far), r.box(far)
		is := meetsOf(l, b)
		if is {
			count++
		}
		same(t, "Meets", all(l, b, met(l, b)), all(l, b, all(is, api.OK)))
	}
	same(t, "are there both", all(count > 1500, count < 4500), all(true, true))
}

func TestShapeErrors(t *testing.T) {
	aPolygon := argumentOf(triangle, badPolygons())
	checkErrors(t, "In", func(a []any) []any { return checkedIn(a[0].([]api.Point), a[1].(api.Point)) }, all(false), aPolygon, argumentOf(point(1, 1), badPoints()))
	checkErrors(t, "Size", func(a []any) []any { return sized(a[0].([]api.Point)) }, all(0), aPolygon)
	checkErrors(t, "Meets", func(a []any) []any { return met(a[0].([]api.Point), a[1].(area.Box)) }, all(false), aPolygon, argumentOf(box(1, 1, 2, 2), badBoxes()))
}
