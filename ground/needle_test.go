package ground_test

import (
	"math"
	"slices"
	"testing"

	"glideslope/api"
	"glideslope/ground"
)

// The tests of this file are those of P4.2.

const maxField = 10000000

func TestNeedle(t *testing.T) {
	for i, x := range []struct {
		carrier, sideband api.Gauss
		needle            int
	}{
		{gauss(10000, 0), gauss(2000, 0), 200}, {gauss(10000, 0), gauss(8000, 0), 800}, {gauss(-2000, 0), gauss(-400, 0), 200}, {gauss(-2000, 0), gauss(4400, 0), -2200},
		{gauss(0, 5), gauss(0, 1), 200}, {gauss(0, 5), gauss(1, 0), 0}, {gauss(3, 4), gauss(4, 3), 960}, {gauss(3, -4), gauss(4, 3), 0}, {gauss(1, 0), gauss(0, 0), 0},
		// rounded down
		{gauss(3, 0), gauss(2, 0), 666}, {gauss(3, 0), gauss(-2, 0), -667}, {gauss(maxField, 0), gauss(1, 0), 0}, {gauss(maxField, 0), gauss(-1, 0), -1},
		// limited
		{gauss(1, 0), gauss(1000, 0), 1000000}, {gauss(1, 0), gauss(1001, 0), 1000000}, {gauss(1, 0), gauss(999, 999), 999000}, {gauss(1, 0), gauss(-1000, 0), -1000000}, {gauss(1, 0), gauss(-1001, 0), -1000000}, {gauss(0, -1), gauss(0, maxField), -1000000},
		{gauss(maxField, -maxField), gauss(maxField, -maxField), 1000}, {gauss(maxField, maxField-1), gauss(maxField-1, maxField), 999}, {gauss(-maxField, maxField), gauss(maxField, -maxField), -1000},
	} {
		n, e := ground.Needle(x.carrier, x.sideband)
		same(t, "Needle", all(i, n, e), all(i, x.needle, api.OK))
	}
	r := numbers{11}
	for range 5000 {
		most := []int{2, 50, 5000, maxField}[r.below(4)]
		c, s := r.gauss(most), r.gauss([]int{2, 50, 5000, maxField}[r.below(4)])
		n, e := ground.Needle(c, s)
		want, is := needleOf(c, s)
		wantE := api.OK
		if !is {
			wantE = api.ErrZero
		}
		same(t, "Needle", all(c, s, n, e), all(c, s, want, wantE))
	}
}

func TestNeedleErrors(t *testing.T) {
	n, e := ground.Needle(gauss(0, 0), gauss(maxField, -maxField))
	same(t, "Needle without a carrier", all(n, e), all(0, api.ErrZero))
	for _, x := range []int{maxField + 1, -maxField - 1, math.MinInt, math.MaxInt} {
		for _, g := range []api.Gauss{gauss(x, 0), gauss(0, x)} {
			n, e := ground.Needle(g, gauss(1, 1))
			same(t, "Needle with errors of the carrier", all(g, n, e), all(g, 0, api.ErrRange))
			n, e = ground.Needle(gauss(0, 0), g) // before ErrZero
			same(t, "Needle with errors of the sideband", all(g, n, e), all(g, 0, api.ErrRange))
		}
	}
}

func TestNeedles(t *testing.T) {
	over := vector(8, 0, 20)
	for i, x := range []struct {
		x       ground.Scene
		factors []int
		marks   []api.Vector
		l       []int
		e       api.Errno
	}{
		{scene(), []int{0}, []api.Vector{markM}, []int{200}, api.OK}, {scene(sourceB), []int{0}, []api.Vector{markM, vector(8, 0, 1), vector(8, 1, 2)}, []int{800, 800, -400}, api.OK},
		{example(), []int{0, 200}, []api.Vector{markM, markM}, []int{-2200, -2200}, api.OK},
		{plated(scene(), plateP), []int{0, 150}, []api.Vector{markM, over}, []int{200, 200}, api.OK},
		{layered(scene()), []int{1000}, []api.Vector{vector(8, 0, 1), markM}, nil, api.ErrZero}, {layered(scene()), []int{1000}, []api.Vector{vector(8, 0, 1)}, []int{200}, api.OK},
		{ground.Scene{Sources: []ground.Source{sourceB}}, []int{1000}, []api.Vector{markM}, nil, api.ErrZero},
		{scene(), []int{0}, slices.Repeat([]api.Vector{markM}, 32), slices.Repeat([]int{200}, 32), api.OK},
	} {
		l, e := ground.Needles(x.x, x.factors, x.marks)
		same(t, "Needles", all(i, l, e), all(i, x.l, x.e))
	}
	r := numbers{13}
	zeros := 0
	for range 1000 {
		far := r.far()
		x, marks := r.scene(far, 6), r.marks(far, 8)
		if r.below(4) == 0 {
			x = plated(layered(x)) // without plates, it is more likely that there is no carrier
		}
		factors := r.factors(x)
		want, wantE := []int{}, api.OK
		for _, mark := range marks {
			n, is := needleOf(fieldsOf(x, factors, mark))
			if !is {
				want, wantE = []int{}, api.ErrZero
				zeros++
				break
			}
			want = append(want, n)
		}
		l, e := ground.Needles(x, factors, marks)
		same(t, "Needles", all(x, factors, marks, append([]int{}, l...), e), all(x, factors, marks, want, wantE))
	}
	same(t, "are there marks without a carrier", all(zeros > 10), all(true))
}

func TestNeedlesErrors(t *testing.T) {
	for i, x := range badMarks() {
		l, e := ground.Needles(example(), []int{0, 200}, x.x)
		same(t, "Needles with errors of the marks", all(i, l, e), all(i, []int{}, x.e))
		b, e := ground.Enclosed(example(), x.x)
		same(t, "Enclosed with errors of the marks", all(i, b, e), all(i, []api.Interval{}, x.e))
	}
	l, e := ground.Needles(layered(scene()), []int{1000}, []api.Vector{markM, vector(0, 0, -1)})
	same(t, "Needles: the marks come before ErrZero", all(l, e), all([]int{}, api.ErrRange))
	b, e := ground.Enclosed(layered(scene()), []api.Vector{markM, vector(0, 0, -1)})
	same(t, "Enclosed: the marks come before ErrZero", all(b, e), all([]api.Interval{}, api.ErrRange))
	for i, x := range []bad[[]int]{{nil, api.ErrShape}, {[]int{0, 200, 200}, api.ErrShape}, {[]int{0, 99}, api.ErrBand}} {
		l, e := ground.Needles(example(), x.x, nil)
		same(t, "Needles with errors of the factors", all(i, l, e), all(i, []int{}, x.e))
	}
	for i, x := range badScenes() {
		l, e := ground.Needles(x.x, nil, nil)
		same(t, "Needles with errors of the scene", all(i, l, e), all(i, []int{}, x.e))
		boxes, e := ground.Boxes(x.x, vector(0, 0, -1))
		same(t, "Boxes with errors of the scene", all(i, boxes, e), all(i, [2]ground.Box{}, x.e))
		b, e := ground.Enclosed(x.x, nil)
		same(t, "Enclosed with errors of the scene", all(i, b, e), all(i, []api.Interval{}, x.e))
	}
	for i, x := range badPlaces() {
		boxes, e := ground.Boxes(example(), x.x)
		same(t, "Boxes with errors of the mark", all(i, boxes, e), all(i, [2]ground.Box{}, x.e))
	}
}

func TestBoxes(t *testing.T) {
	exactly := func(n int) api.Interval { return interval(n, n) }
	opposite := ground.Source{At: vector(0, 0, 0), Carrier: gauss(10, 0), Sideband: gauss(0, 1)}
	for i, x := range []struct {
		x                 ground.Scene
		carrier, sideband ground.Box
	}{
		{scene(), box(exactly(10000), exactly(0)), box(exactly(2000), exactly(0))},
		{layered(scene(), interval(0, 500)), box(interval(5000, 10000), exactly(0)), box(interval(1000, 2000), exactly(0))},
		{plated(scene(), plateP), box(interval(-2000, -1000), exactly(0)), box(interval(-400, -200), exactly(0))},
		{example(), box(interval(-2000, -1000), exactly(0)), box(interval(4400, 5200), exactly(0))},
		// both images arrive by the same factor, and their carriers are opposite: by the way 12 from A's, 10 from the other one
		{layered(scene(opposite), interval(0, 1000)), box(exactly(0), exactly(0)), box(interval(0, 2000), interval(-1000, 0))},
	} {
		boxes, e := ground.Boxes(x.x, markM)
		same(t, "Boxes", all(i, boxes, e), all(i, [2]ground.Box{x.carrier, x.sideband}, api.OK))
	}
	r := numbers{15}
	for range 500 {
		far := r.far()
		x, mark := r.scene(far, 4), r.place(far)
		boxes, e := ground.Boxes(x, mark)
		same(t, "Boxes", all(x, mark, boxes, e), all(x, mark, boxesOf(x, mark), api.OK))
	}
	for _, z := range []int{0, 1, 200} {
		mark := vector(-1000, -1000, z)
		boxes, e := ground.Boxes(largest(), mark)
		same(t, "Boxes of the largest scene", all(boxes, e), all(boxesOf(largest(), mark), api.OK))
	}
}

// badBoxes returns boxes with their errors.
func badBoxes() []bad[[2]ground.Box] {
	fine := interval(1, 2)
	with := func(i int, x api.Interval) [2]ground.Box {
		l := [4]api.Interval{fine, fine, fine, fine}
		l[i] = x
		return [2]ground.Box{box(l[0], l[1]), box(l[2], l[3])}
	}
	var out []bad[[2]ground.Box]
	for i := range 4 {
		for _, n := range []int{maxField + 1, -maxField - 1, math.MinInt, math.MaxInt} {
			out = append(out, bad[[2]ground.Box]{with(i, interval(n, 0)), api.ErrRange}, bad[[2]ground.Box]{with(i, interval(0, n)), api.ErrRange}, bad[[2]ground.Box]{with(i, interval(n, n)), api.ErrRange})
		}
		out = append(out, bad[[2]ground.Box]{with(i, interval(1, 0)), api.ErrOrder}, bad[[2]ground.Box]{with(i, interval(maxField, -maxField)), api.ErrOrder})
	}
	wrong, wide := interval(1, 0), interval(0, maxField+1)
	return append(out,
		// the first interval with an error decides
		bad[[2]ground.Box]{[2]ground.Box{box(wrong, wide), {}}, api.ErrOrder}, bad[[2]ground.Box]{[2]ground.Box{box(wide, wrong), {}}, api.ErrRange},
		bad[[2]ground.Box]{[2]ground.Box{box(fine, wrong), box(wide, fine)}, api.ErrOrder}, bad[[2]ground.Box]{[2]ground.Box{box(fine, wide), box(wrong, fine)}, api.ErrRange},
		bad[[2]ground.Box]{[2]ground.Box{{}, box(wrong, wide)}, api.ErrOrder}, bad[[2]ground.Box]{[2]ground.Box{{}, box(fine, wrong)}, api.ErrOrder}) // before ErrZero
}

func TestBounds(t *testing.T) {
	nothing := interval(0, 0)
	for i, x := range []struct {
		carrier, sideband ground.Box
		b                 api.Interval
		e                 api.Errno
	}{
		{box(interval(5000, 10000), nothing), box(interval(1000, 2000), nothing), interval(50, 800), api.OK},
		{box(interval(2, 3), nothing), box(interval(1, 1), nothing), interval(222, 750), api.OK},     // N 2 to 3, D 4 to 9
		{box(interval(2, 3), nothing), box(interval(-1, -1), nothing), interval(-750, -223), api.OK}, // N -3 to -2
		{box(interval(2, 3), nothing), box(interval(-1, 1), nothing), interval(-750, 750), api.OK},   // N -3 to 3
		{box(interval(-3, -2), nothing), box(interval(-1, 1), nothing), interval(-750, 750), api.OK},
		{box(interval(-3, -2), nothing), box(interval(0, 1), nothing), interval(-750, 0), api.OK}, // N -3 to 0
		{box(interval(2, 3), nothing), box(interval(0, 1), nothing), interval(0, 750), api.OK},
		{box(interval(-1, 2), interval(1, 1)), box(interval(-1, 3), interval(4, 5)), interval(200, 11000), api.OK},   // N from -3 to 6 and from 4 to 5; D from 0 to 4 and from 1 to 1
		{box(interval(-1, 2), interval(1, 1)), box(interval(-1, 3), interval(-5, 3)), interval(-8000, 9000), api.OK}, // N from -3 to 6 and from -5 to 3
		{box(interval(-3, 1), interval(2, 2)), box(interval(7, 7), nothing), interval(-5250, 1750), api.OK},          // D from 0 to 9 and from 4 to 4
		{box(nothing, interval(2, 2)), box(interval(-9, 9), interval(1, 1)), interval(500, 500), api.OK},
		{box(interval(1, 1), nothing), box(interval(-1001, 1001), nothing), interval(-1000000, 1000000), api.OK}, {box(interval(1, 1), nothing), box(interval(1000, maxField), nothing), interval(1000000, 1000000), api.OK},
		{box(interval(maxField, maxField), interval(-maxField, -maxField)), box(interval(-maxField, maxField), interval(-maxField, maxField)), interval(-1000, 1000), api.OK},
		{box(interval(1, maxField), interval(-maxField, -1)), box(interval(maxField, maxField), interval(-maxField, -maxField)), interval(0, 1000000), api.OK},
		{box(interval(1, maxField), interval(-maxField, -1)), box(interval(-maxField, -maxField), interval(maxField, maxField)), interval(-1000000, -1), api.OK},
		{box(nothing, nothing), box(interval(1, 1), nothing), nothing, api.ErrZero}, {box(interval(-1, 1), interval(-1, 1)), box(nothing, nothing), nothing, api.ErrZero}, {box(interval(0, maxField), interval(-maxField, 0)), box(interval(1, 1), nothing), nothing, api.ErrZero},
		{box(interval(-1, 1), interval(1, 1)), box(nothing, nothing), nothing, api.OK}, {box(interval(1, 2), interval(-1, 1)), box(nothing, nothing), nothing, api.OK},
	} {
		b, e := ground.Bounds([2]ground.Box{x.carrier, x.sideband})
		same(t, "Bounds", all(i, b, e), all(i, x.b, x.e))
	}
	for i, x := range badBoxes() {
		b, e := ground.Bounds(x.x)
		same(t, "Bounds with errors", all(i, b, e), all(i, nothing, x.e))
	}
}

func TestBoundsOfAllBoxes(t *testing.T) {
	r := numbers{17}
	part := func(most int) api.Interval {
		low := r.within(most)
		return interval(low, low+r.below([]int{1, 5, most - low + 1}[r.below(3)]))
	}
	for range 10000 {
		c, s := []int{3, 100, 9999990}[r.below(3)], []int{3, 100, 9999990}[r.below(3)]
		boxes := [2]ground.Box{box(part(c), part(c)), box(part(s), part(s))}
		want, are := boundsOf(boxes)
		wantE := api.OK
		if !are {
			wantE = api.ErrZero
		}
		b, e := ground.Bounds(boxes)
		same(t, "Bounds", all(boxes, b, e), all(boxes, want, wantE))
	}
}

func TestEnclosed(t *testing.T) {
	for i, x := range []struct {
		x     ground.Scene
		marks []api.Vector
		l     []api.Interval
		e     api.Errno
	}{
		{layered(scene(), interval(0, 500)), []api.Vector{markM}, []api.Interval{interval(50, 800)}, api.OK},
		{scene(), []api.Vector{markM, vector(9, 0, 2)}, []api.Interval{interval(200, 200), interval(200, 200)}, api.OK},
		{example(), []api.Vector{markM}, []api.Interval{interval(-10400, -1100)}, api.OK}, // N -10400000 to -4400000, D 1000000 to 4000000
		{layered(scene()), []api.Vector{vector(9, 0, 1), markM}, nil, api.ErrZero}, {layered(scene(), interval(0, 1000)), []api.Vector{vector(9, 0, 1), markM}, nil, api.ErrZero},
		{layered(scene(), interval(0, 999)), slices.Repeat([]api.Vector{markM}, 32), slices.Repeat([]api.Interval{interval(0, 1000000)}, 32), api.OK},
	} {
		l, e := ground.Enclosed(x.x, x.marks)
		same(t, "Enclosed", all(i, l, e), all(i, x.l, x.e))
	}
	r := numbers{19}
	for range 500 {
		far := r.far()
		x, marks := r.scene(far, 2), r.marks(far, 3)
		want, wantE := []api.Interval{}, api.OK
		for _, mark := range marks {
			b, are := boundsOf(boxesOf(x, mark))
			if !are {
				want, wantE = []api.Interval{}, api.ErrZero
				break
			}
			want = append(want, b)
		}
		l, e := ground.Enclosed(x, marks)
		same(t, "Enclosed", all(x, marks, l, e), all(x, marks, want, wantE))
	}
}
