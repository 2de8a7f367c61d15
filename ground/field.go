package ground

import (
	"iter"

	"glideslope/api"
	"glideslope/common"
)

// mirrorTurns is the quarter turns that are a factor of -1.
const mirrorTurns = 2

// imaged visits sources with their images.
func imaged(l []Source) iter.Seq2[Source, api.Vector] {
	return func(yield func(Source, api.Vector) bool) {
		for _, s := range l {
			if !yield(s, api.Vector{X: s.At.X, Y: s.At.Y, Z: -s.At.Z}) {
				return
			}
		}
	}
}

// mirror returns the factor of a mirror with layers.
func mirror(layers []api.Interval) api.Interval {
	m := common.Exactly(Whole)
	for _, l := range layers {
		m.Low = common.Floor(m.Low*l.Low, Whole)
		m.High = common.Ceiling(m.High*l.High, Whole)
	}
	return m
}

// Mirror returns the factor of the mirror.
func Mirror(layers []api.Interval) (api.Interval, api.Errno) {
	if e := checkLayers(layers); e != api.OK {
		return api.Interval{}, e
	}
	return mirror(layers), api.OK
}

// bands returns the intervals of the factors of a scene.
func (x Scene) bands() []api.Interval {
	plates := common.Mapped(x.Plates, func(p Plate) api.Interval { return p.Factor })
	return append([]api.Interval{mirror(x.Layers)}, plates...)
}

// greatest returns the greatest factors of a scene.
func (x Scene) greatest() []int {
	return common.Mapped(x.bands(), func(band api.Interval) int { return band.High })
}

// Greatest returns the greatest factors of a scene.
func Greatest(x Scene) ([]int, api.Errno) {
	if e := CheckScene(x); e != api.OK {
		return nil, e
	}
	return x.greatest(), api.OK
}

// pair is a number for the carrier, and one for the sideband: feeds or fields. Their parts are integers.
type pair [2]complex128

// feeds returns both feeds of a source after a way.
func (s Source) feeds(way int) pair {
	turn := common.Complex(common.Turn(way))
	return pair{common.Complex(s.Carrier) * turn, common.Complex(s.Sideband) * turn}
}

// plus returns a pair with another one added, times a factor.
func (p pair) plus(q pair, factor int) pair {
	for i, x := range q {
		p[i] += x * complex(float64(factor), 0)
	}
	return p
}

// arriving returns what arrives at a mark directly, and what arrives by the mirror, and by each plate, all of it for the factor 1.
func (x Scene) arriving(mark api.Vector) (pair, []pair) {
	var direct, mirrored pair
	scattered := make([]pair, len(x.Plates))
	blocked := x.blocked(mark)
	for s, image := range imaged(x.Sources) {
		if !blocked[s.At] {
			direct = direct.plus(s.feeds(wayBetween(s.At, mark)), 1)
		}
		if !blocked[image] {
			mirrored = mirrored.plus(s.feeds(wayBetween(image, mark)+mirrorTurns), 1)
		}
		for i, p := range x.Plates {
			way := wayBetween(s.At, p.edge()) + wayBetween(p.edge(), mark) + p.Turn
			scattered[i] = scattered[i].plus(s.feeds(way), 1)
		}
	}
	return direct, append([]pair{mirrored}, scattered...)
}

// fields returns the fields at a mark.
func (x Scene) fields(factors []int, mark api.Vector) pair {
	direct, others := x.arriving(mark)
	fields := pair{}.plus(direct, Whole)
	for i, p := range others {
		fields = fields.plus(p, factors[i])
	}
	return fields
}

// Fields returns the fields of the carrier and of the sideband at a mark.
func Fields(x Scene, factors []int, mark api.Vector) (api.Gauss, api.Gauss, api.Errno) {
	if e := common.First(CheckFactors(x, factors), checkPlace(mark)); e != api.OK {
		return api.Gauss{}, api.Gauss{}, e
	}
	f := x.fields(factors, mark)
	return common.Gauss(f[0]), common.Gauss(f[1]), api.OK
}
