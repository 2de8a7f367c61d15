package ground_test

import (
	"math"
	"slices"
	"testing"

	"glideslope/api"
	"glideslope/ground"
)

// The tests of this file are those of P4.1.

// largest returns a scene with as much of everything as there may be, of which a part of a field is as great as it can be.
func largest() ground.Scene {
	x := ground.Scene{Layers: slices.Repeat([]api.Interval{interval(1000, 1000)}, 4)}
	for range 6 {
		x.Sources = append(x.Sources, ground.Source{At: vector(-1000, -1000, 1), Carrier: gauss(100, -100), Sideband: gauss(-100, 100)})
		x.Plates = append(x.Plates, ground.Plate{From: point(1000, 1000), To: point(1000, -1000), Height: 200, Factor: interval(0, 1000), Turn: 3})
	}
	return x
}

func TestCheckScene(t *testing.T) {
	corner := ground.Source{At: vector(1000, -1000, 200), Carrier: gauss(-100, 100), Sideband: gauss(100, -100)}
	for i, x := range []ground.Scene{
		{Sources: []ground.Source{{}}}, scene(), example(), largest(), full(), {Sources: slices.Repeat([]ground.Source{corner}, 6)},
		plated(scene(), ground.Plate{From: point(-1000, 1000), To: point(1000, -1000), Height: 1, Factor: interval(0, 0)}, ground.Plate{From: point(0, 1), Height: 200, Factor: interval(1000, 1000), Turn: 3}),
	} {
		same(t, "CheckScene", all(i, ground.CheckScene(x)), all(i, api.OK))
	}
	for i, x := range badScenes() {
		same(t, "CheckScene with errors", all(i, ground.CheckScene(x.x)), all(i, x.e))
	}
}

func TestWay(t *testing.T) {
	for _, x := range []struct {
		a, b api.Vector
		way  int
	}{
		{sourceA.At, markM, 8}, {imageOf(sourceA.At), markM, 12}, {sourceA.At, vector(4, -2, 5), 9}, {vector(4, -2, 5), markM, 9}, {markM, markM, 0},
		{vector(-1000, 1000, -1000), vector(1000, -1000, 1000), 6000},
	} {
		a, e := ground.Way(x.a, x.b)
		b, f := ground.Way(x.b, x.a)
		same(t, "Way", all(x.a, x.b, a, e, b, f), all(x.a, x.b, x.way, api.OK, x.way, api.OK))
	}
	for i, x := range badVectors() {
		a, e := ground.Way(x.x, markM)
		b, f := ground.Way(markM, x.x)
		same(t, "Way with errors", all(i, a, e, b, f), all(i, 0, x.e, 0, x.e))
	}
}

func TestMirror(t *testing.T) {
	for i, x := range []struct {
		l      []api.Interval
		factor api.Interval
	}{
		{nil, interval(1000, 1000)}, {[]api.Interval{dark}, dark}, {[]api.Interval{interval(0, 1000)}, interval(0, 1000)},
		{[]api.Interval{interval(900, 950), interval(500, 600)}, interval(450, 570)},
		{[]api.Interval{interval(999, 999), interval(999, 999)}, interval(998, 999)}, {[]api.Interval{interval(1, 1), interval(1, 1)}, interval(0, 1)},
		// rounded after each layer: by 333 333 333 alone it would be 36 to 37
		{[]api.Interval{interval(333, 333), interval(333, 333), interval(333, 333), interval(1000, 1000)}, interval(36, 37)},
		{[]api.Interval{interval(1, 1), interval(1, 1), interval(1000, 1000), interval(1, 1)}, interval(0, 1)},
		{[]api.Interval{interval(5, 5), interval(150, 150), interval(500, 500)}, interval(0, 1)},
	} {
		m, e := ground.Mirror(x.l)
		same(t, "Mirror", all(i, m, e), all(i, x.factor, api.OK))
	}
	r := numbers{1}
	for range 3000 {
		x := r.scene(5, 0)
		m, e := ground.Mirror(x.Layers)
		same(t, "Mirror", all(x.Layers, m, e), all(x.Layers, mirrorOf(x.Layers), api.OK))
	}
	for i, x := range badLayers() {
		m, e := ground.Mirror(x.x)
		same(t, "Mirror with errors", all(i, m, e), all(i, interval(0, 0), x.e))
	}
}

func TestBlocking(t *testing.T) {
	wide := changed(func(p *ground.Plate) { p.From, p.To = point(4, 3), point(4, -3) })
	for i, x := range []struct {
		p          ground.Plate
		from, mark api.Vector
		blocks     bool
	}{
		{plateP, sourceA.At, markM, true}, {plateP, imageOf(sourceA.At), markM, true}, {wide, sourceA.At, markM, true},
		{plateP, sourceA.At, vector(8, 0, 20), false}, {plateP, imageOf(sourceA.At), vector(8, 0, 20), false},
		// heights there of 4, 5 and 6, and, below the ground, of 4, 5 and 6
		{plateP, sourceA.At, vector(8, 0, 6), true}, {plateP, sourceA.At, vector(8, 0, 8), false}, {plateP, sourceA.At, vector(8, 0, 10), false},
		{plateP, vector(0, 0, -14), vector(8, 0, 6), true}, {plateP, vector(0, 0, -16), vector(8, 0, 6), false}, {plateP, vector(0, 0, -18), vector(8, 0, 6), false},
		{plateP, vector(0, 0, -200), vector(8, 0, 200), true},
		// heights there of 4 3/4, 5 and 5 1/4: quarters, because the plate is nearer to the mark
		{plateP, vector(-8, 0, 1), vector(8, 0, 6), true}, {plateP, vector(-8, 0, 2), vector(8, 0, 6), false}, {plateP, vector(-8, 0, 3), vector(8, 0, 6), false},
		// an end of the one on the other one, or on its line
		{plateP, vector(0, 4, 2), markM, false}, {plateP, vector(0, 2, 0), vector(8, 2, 0), false}, {plateP, vector(0, 1, 0), vector(8, 2, 0), true}, {plateP, vector(0, 3, 0), vector(8, 0, 0), true}, {plateP, vector(0, 3, 0), vector(8, 2, 0), false},
		{plateP, vector(4, 0, 0), markM, false}, {plateP, sourceA.At, vector(4, 0, 0), false}, {plateP, sourceA.At, vector(3, 0, 0), false}, {plateP, sourceA.At, vector(5, 0, 0), true}, {plateP, vector(4, -5, 0), vector(4, 5, 0), false}, {plateP, vector(4, -1, 0), vector(4, 1, 0), false},
		{plateP, vector(0, 0, 0), vector(0, 0, 9), false}, {plateP, vector(4, 0, 0), vector(4, 0, 9), false}, {plateP, vector(9, 0, 0), markM, false}, {plateP, vector(0, 1, 0), vector(0, 9, 0), false},
		{changed(func(p *ground.Plate) { p.From, p.To = point(-1000, -999), point(1000, 1000) }), vector(-1000, 1000, -1000), vector(1000, -1000, 200), false},
		{changed(func(p *ground.Plate) { p.From, p.To, p.Height = point(-1000, -999), point(1000, 1000), 200 }), vector(-1000, 1000, 200), vector(1000, -1000, 199), true},
	} {
		l, e := ground.Blocking(plated(scene(), x.p), x.from, x.mark)
		want := []int{}
		if x.blocks {
			want = []int{0}
		}
		same(t, "Blocking", all(i, l, e), all(i, want, api.OK))
		same(t, "the same line by ratios", all(i, blocksOf(x.p, x.from, x.mark)), all(i, x.blocks))
	}
	over := changed(func(p *ground.Plate) { p.From, p.To = point(5, 4), point(5, 9) })
	l, e := ground.Blocking(plated(scene(), plateP, over, wide, plateP), sourceA.At, markM)
	same(t, "Blocking of several plates", all(l, e), all([]int{0, 2, 3}, api.OK))
}

func TestBlockingOfAllLines(t *testing.T) {
	r := numbers{3}
	counts := [2]int{}
	for range 5000 {
		far := r.far()
		x, from, mark := r.scene(far, 6), r.place(far), r.place(far)
		if r.below(2) == 0 {
			from.Z = -from.Z
		}
		l, e := ground.Blocking(x, from, mark)
		same(t, "Blocking", all(x, from, mark, l, e), all(x, from, mark, blockingOf(x, from, mark), api.OK))
		counts[min(1, len(l))]++
	}
	same(t, "are there blocked and free lines", all(counts[0] > 1000, counts[1] > 1000), all(true, true))
}

func TestBlockingErrors(t *testing.T) {
	for i, x := range badVectors() {
		l, e := ground.Blocking(example(), x.x, vector(0, 0, -1))
		same(t, "Blocking with errors of the vector", all(i, l, e), all(i, []int{}, x.e))
	}
	for i, x := range badPlaces() {
		l, e := ground.Blocking(example(), vector(0, 0, -1000), x.x)
		same(t, "Blocking with errors of the mark", all(i, l, e), all(i, []int{}, x.e))
	}
	for _, z := range []int{-1000, -1, 1000} {
		l, e := ground.Blocking(scene(), vector(-1000, 1000, z), markM)
		same(t, "Blocking of a vector that is no place", all(z, l, e), all(z, []int{}, api.OK))
	}
	for i, x := range badScenes() {
		l, e := ground.Blocking(x.x, vector(1001, 0, 0), vector(0, 0, -1))
		same(t, "Blocking with errors of the scene", all(i, l, e), all(i, []int{}, x.e))
	}
}

func TestCheckFactors(t *testing.T) {
	x := plated(layered(scene(), interval(900, 950), interval(500, 600)), plateP, changed(func(p *ground.Plate) { p.Factor = interval(0, 0) }))
	for i, y := range []struct {
		factors []int
		e       api.Errno
	}{
		{[]int{450, 100, 0}, api.OK}, {[]int{570, 200, 0}, api.OK}, {[]int{500, 150, 0}, api.OK},
		{nil, api.ErrShape}, {[]int{500, 150}, api.ErrShape}, {[]int{500, 150, 0, 0}, api.ErrShape}, {[]int{-1, -1}, api.ErrShape}, {[]int{-1, -1, -1, -1}, api.ErrShape},
		{[]int{449, 150, 0}, api.ErrBand}, {[]int{571, 150, 0}, api.ErrBand}, {[]int{500, 99, 0}, api.ErrBand}, {[]int{500, 201, 0}, api.ErrBand}, {[]int{500, 150, 1}, api.ErrBand}, {[]int{500, 150, -1}, api.ErrBand},
		{[]int{math.MinInt, 150, 0}, api.ErrBand}, {[]int{500, math.MaxInt, 0}, api.ErrBand}, {[]int{1000, 1000, 1000}, api.ErrBand},
	} {
		same(t, "CheckFactors", all(i, ground.CheckFactors(x, y.factors)), all(i, y.e))
		c, s, e := ground.Fields(x, y.factors, markM)
		if e != api.OK {
			same(t, "Fields with errors of the factors", all(i, c, s, e), all(i, gauss(0, 0), gauss(0, 0), y.e))
		}
		same(t, "error of Fields", all(i, e), all(i, y.e))
	}
	same(t, "CheckFactors of a mirror alone", all(ground.CheckFactors(layered(scene()), []int{1000}), ground.CheckFactors(layered(scene()), []int{999}), ground.CheckFactors(scene(), nil)), all(api.OK, api.ErrBand, api.ErrShape))
	for i, x := range badScenes() {
		same(t, "CheckFactors with errors of the scene", all(i, ground.CheckFactors(x.x, nil), ground.CheckFactors(x.x, []int{-1, -1})), all(i, x.e, x.e))
	}
}

func TestGreatest(t *testing.T) {
	for i, x := range []struct {
		x ground.Scene
		l []int
	}{
		{scene(), []int{0}}, {layered(scene()), []int{1000}}, {example(), []int{0, 200}}, {largest(), []int{1000, 1000, 1000, 1000, 1000, 1000, 1000}},
		{plated(layered(scene(), interval(900, 950), interval(500, 600)), plateP, changed(func(p *ground.Plate) { p.Factor = interval(3, 7) })), []int{570, 200, 7}},
	} {
		l, e := ground.Greatest(x.x)
		same(t, "Greatest", all(i, l, e), all(i, x.l, api.OK))
	}
	for i, x := range badScenes() {
		l, e := ground.Greatest(x.x)
		same(t, "Greatest with errors", all(i, l, e), all(i, []int{}, x.e))
	}
}

func TestFields(t *testing.T) {
	sideways := ground.Source{At: vector(0, 0, 2), Carrier: gauss(3, -4), Sideband: gauss(-1, 2)}
	turned := func(k int) ground.Plate { return changed(func(p *ground.Plate) { p.Turn = k }) }
	for i, x := range []struct {
		x                 ground.Scene
		factors           []int
		mark              api.Vector
		carrier, sideband api.Gauss
	}{
		{scene(), []int{0}, markM, gauss(10000, 0), gauss(2000, 0)},
		{plated(scene(), plateP), []int{0, 200}, markM, gauss(-2000, 0), gauss(-400, 0)},
		{scene(sourceB), []int{0}, markM, gauss(10000, 0), gauss(8000, 0)},
		{example(), []int{0, 200}, markM, gauss(-2000, 0), gauss(4400, 0)}, {example(), []int{0, 100}, markM, gauss(-1000, 0), gauss(5200, 0)},
		// ways of 9, 10 and 11 in place of 8, and the image's of 13, 14 and 11
		{scene(), []int{0}, vector(8, 1, 2), gauss(0, 10000), gauss(0, 2000)}, {scene(), []int{0}, vector(8, -2, 2), gauss(-10000, 0), gauss(-2000, 0)}, {scene(), []int{0}, vector(-9, -2, 2), gauss(0, -10000), gauss(0, -2000)},
		{layered(scene()), []int{1000}, markM, gauss(0, 0), gauss(0, 0)}, {layered(scene(), interval(0, 1000)), []int{400}, markM, gauss(6000, 0), gauss(1200, 0)},
		{layered(scene(), interval(0, 1000)), []int{400}, vector(8, 0, 1), gauss(0, 14000), gauss(0, 2800)}, {layered(scene(), interval(0, 1000)), []int{0}, vector(8, 0, 1), gauss(0, 10000), gauss(0, 2000)},
		{ground.Scene{Sources: []ground.Source{sideways}}, []int{1000}, vector(9, 0, 1), gauss(-6000, 8000), gauss(2000, -4000)},
		{ground.Scene{Sources: []ground.Source{sideways}}, []int{1000}, vector(8, 0, 1), gauss(8000, 6000), gauss(-4000, -2000)},
		// turned plates
		{plated(scene(), turned(1)), []int{0, 200}, markM, gauss(0, -2000), gauss(0, -400)}, {plated(scene(), turned(2)), []int{0, 200}, markM, gauss(2000, 0), gauss(400, 0)}, {plated(scene(), turned(3)), []int{0, 200}, markM, gauss(0, 2000), gauss(0, 400)},
		// each plate scatters, whether or not another one is in between
		{plated(scene(), plateP, plateP), []int{0, 200, 150}, markM, gauss(-3500, 0), gauss(-700, 0)},
		// the line is free, and the image's is blocked: at 4 their heights are 3 and 1
		{plated(layered(scene()), changed(func(p *ground.Plate) { p.Height = 2 })), []int{1000, 100}, vector(8, 0, 4), gauss(-11000, 0), gauss(-2200, 0)},
		{plated(layered(scene()), changed(func(p *ground.Plate) { p.Height = 1 })), []int{1000, 100}, vector(8, 0, 4), gauss(1000, 0), gauss(200, 0)}, // both are free, and add up to 0
	} {
		c, s, e := ground.Fields(x.x, x.factors, x.mark)
		same(t, "Fields", all(i, c, s, e), all(i, x.carrier, x.sideband, api.OK))
	}
}

func TestFieldsOfAllScenes(t *testing.T) {
	r := numbers{5}
	for range 3000 {
		far := r.far()
		x, mark := r.scene(far, 6), r.place(far)
		factors := r.factors(x)
		c, s, e := ground.Fields(x, factors, mark)
		wantC, wantS := fieldsOf(x, factors, mark)
		same(t, "Fields", all(x, factors, mark, c, s, e), all(x, factors, mark, wantC, wantS, api.OK))
		same(t, "CheckFactors", all(ground.CheckFactors(x, factors)), all(api.OK))
		greatest, e := ground.Greatest(x)
		same(t, "Greatest", all(x, greatest, e), all(x, greatestOf(x), api.OK))
	}
	c, s, e := ground.Fields(largest(), greatestOf(largest()), vector(-1000, -1000, 0))
	wantC, wantS := fieldsOf(largest(), greatestOf(largest()), vector(-1000, -1000, 0))
	same(t, "Fields of the largest scene", all(c, s, e), all(wantC, wantS, api.OK))
}

func TestFieldsErrors(t *testing.T) {
	for i, x := range badPlaces() {
		c, s, e := ground.Fields(example(), []int{0, 200}, x.x)
		same(t, "Fields with errors of the mark", all(i, c, s, e), all(i, gauss(0, 0), gauss(0, 0), x.e))
	}
	for i, x := range badScenes() {
		c, s, e := ground.Fields(x.x, []int{-1}, vector(0, 0, -1))
		same(t, "Fields with errors of the scene", all(i, c, s, e), all(i, gauss(0, 0), gauss(0, 0), x.e))
	}
	for i, x := range []bad[[]int]{{nil, api.ErrShape}, {[]int{1, 200}, api.ErrBand}} {
		c, s, e := ground.Fields(example(), x.x, vector(0, 0, -1))
		same(t, "Fields with errors of the factors", all(i, c, s, e), all(i, gauss(0, 0), gauss(0, 0), x.e))
	}
}
