package area

import (
	"iter"

	"glideslope/api"
	"glideslope/common"
)

const minCorners = 3

// edge is two successive corners of a polygon; the polygon is to the left of it.
type edge struct {
	from api.Point
	to   api.Point
}

// left returns the cross product of an edge and a point, which is above 0 if the point is to the left of it.
func (x edge) left(p api.Point) int { return common.Cross(x.from, x.to, p) }

// isBeyond reports whether a point is to the right of an edge.
func (x edge) isBeyond(p api.Point) bool { return x.left(p) < 0 }

// cornerAt returns the corner at an index, which goes on around the end.
func cornerAt(l []api.Point, i int) api.Point { return l[i%len(l)] }

// edges returns the edges of a polygon.
func edges(l []api.Point) []edge {
	out := make([]edge, len(l))
	for i := range len(l) {
		out[i] = edge{l[i], cornerAt(l, i+1)}
	}
	return out
}

// isOnce reports whether no point occurs twice.
func isOnce(l []api.Point) bool {
	for i := range len(l) {
		for j := range i {
			if l[i] == l[j] {
				return false
			}
		}
	}
	return true
}

// isConvex reports whether a polygon is convex, and goes around once to the left: no corner is to the right of an edge.
func isConvex(l []api.Point) bool {
	for i, x := range edges(l) {
		if !isIn(l, x.from) || x.left(cornerAt(l, i+2)) <= 0 {
			return false
		}
	}
	return isOnce(l)
}

// isIn reports whether a point is in a polygon.
func isIn(l []api.Point, p api.Point) bool {
	for _, x := range edges(l) {
		if x.isBeyond(p) {
			return false
		}
	}
	return true
}

// In reports whether a point is in a polygon.
func In(l []api.Point, p api.Point) (bool, api.Errno) {
	if e := common.First(CheckPolygon(l), checkPoint(p)); e != api.OK {
		return false, e
	}
	return isIn(l, p), api.OK
}

// Size returns the size of a polygon.
func Size(l []api.Point) (int, api.Errno) {
	if e := CheckPolygon(l); e != api.OK {
		return 0, e
	}
	size := 0
	for _, x := range edges(l) {
		size += x.left(api.Point{}) // as seen from any point, the triangles of all edges are the polygon
	}
	return size, api.OK
}

// side is a side of a box: the corner that it goes through, and where points are on the axis that it is upright to.
type side struct {
	corner  func(b Box) api.Point
	on      func(p api.Point) int
	outward int
}

// sides returns the sides of a box: those through Low, then those through High.
func sides() [4]side {
	low := func(b Box) api.Point { return b.Low }
	high := func(b Box) api.Point { return b.High }
	x := func(p api.Point) int { return p.X }
	y := func(p api.Point) int { return p.Y }
	return [4]side{{low, x, -1}, {low, y, -1}, {high, x, 1}, {high, y, 1}}
}

// at returns where a side of a box is.
func (s side) at(b Box) int { return s.on(s.corner(b)) }

// isBeyond reports whether a point is beyond a side of a box.
func (s side) isBeyond(b Box, p api.Point) bool { return s.outward*(s.on(p)-s.at(b)) > 0 }

// corners returns the corners of a box.
func (b Box) corners() []api.Point {
	return []api.Point{b.Low, {X: b.High.X, Y: b.Low.Y}, b.High, {X: b.Low.X, Y: b.High.Y}}
}

// lines visits the lines that may separate a polygon and a box: what is beyond each one, and the corners that are all beyond it if it does.
func lines(l []api.Point, b Box) iter.Seq2[func(p api.Point) bool, []api.Point] {
	return func(yield func(func(p api.Point) bool, []api.Point) bool) {
		for _, s := range sides() {
			if !yield(func(p api.Point) bool { return s.isBeyond(b, p) }, l) {
				return
			}
		}
		for _, x := range edges(l) {
			if !yield(x.isBeyond, b.corners()) {
				return
			}
		}
	}
}

// meets reports whether a box and a polygon have a point in common. Two convex shapes have none exactly if a line along an edge of one of them separates them.
func meets(l []api.Point, b Box) bool {
	areApart := false
search:
	for isBeyond, corners := range lines(l, b) {
		for _, p := range corners {
			if !isBeyond(p) {
				continue search
			}
		}
		areApart = true
		break search
	}
	return !areApart
}

// Meets reports whether a box meets a polygon.
func Meets(l []api.Point, b Box) (bool, api.Errno) {
	if e := common.First(CheckPolygon(l), checkBox(b)); e != api.OK {
		return false, e
	}
	return meets(l, b), api.OK
}
