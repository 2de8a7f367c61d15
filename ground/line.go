package ground

import (
	"cmp"

	"glideslope/api"
	"glideslope/common"
)

// foot returns the point of the ground below, or above, a vector.
func foot(v api.Vector) api.Point { return api.Point{X: v.X, Y: v.Y} }

// wayBetween returns the way between two vectors.
func wayBetween(a, b api.Vector) int {
	return common.Absolute(a.X-b.X) + common.Absolute(a.Y-b.Y) + common.Absolute(a.Z-b.Z)
}

// Way returns the way between two vectors.
func Way(a, b api.Vector) (int, api.Errno) {
	if e := common.First(checkVector(a), checkVector(b)); e != api.OK {
		return 0, e
	}
	return wayBetween(a, b), api.OK
}

// areApart reports whether two cross products are those of points strictly on both sides of a line.
func areApart(a, b int) bool {
	sides := [2]int{cmp.Compare(a, 0), cmp.Compare(b, 0)}
	return sides == [2]int{-1, 1} || sides == [2]int{1, -1}
}

// edge returns the edge of a plate.
func (p Plate) edge() api.Vector { return api.Vector{X: p.From.X, Y: p.From.Y, Z: p.Height} }

// blocks reports whether a plate blocks the line from a vector to another one.
func (p Plate) blocks(from, to api.Vector) bool {
	a, b := foot(from), foot(to)
	sideA, sideB := common.Cross(p.From, p.To, a), common.Cross(p.From, p.To, b)
	if !areApart(sideA, sideB) || !areApart(common.Cross(a, b, p.From), common.Cross(a, b, p.To)) {
		return false
	}
	// the line's height there is the quotient of both
	num, den := sideA*to.Z-sideB*from.Z, sideA-sideB
	return common.Absolute(num) < p.Height*common.Absolute(den)
}

// Blocking returns the plates that block a line.
func Blocking(x Scene, from, mark api.Vector) ([]int, api.Errno) {
	if e := common.First(CheckScene(x), checkVector(from), checkPlace(mark)); e != api.OK {
		return nil, e
	}
	var l []int
	for i, p := range x.Plates {
		if p.blocks(from, mark) {
			l = append(l, i)
		}
	}
	return l, api.OK
}

// blocked returns from where, of all sources and their images, the line to a mark is blocked.
func (x Scene) blocked(mark api.Vector) map[api.Vector]bool {
	blocked := map[api.Vector]bool{}
	for s, image := range imaged(x.Sources) {
	lines:
		for _, from := range [2]api.Vector{s.At, image} {
			for _, p := range x.Plates {
				if p.blocks(from, mark) {
					blocked[from] = true
					continue lines
				}
			}
		}
	}
	return blocked
}
