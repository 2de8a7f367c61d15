package ground_test

import (
	"slices"
	"testing"

	"glideslope/api"
	"glideslope/ground"
)

// The tests of this file are those of P4.3.

// other returns P with another turn, so that it can be told from P.
func other(turn int) ground.Plate {
	return changed(func(p *ground.Plate) { p.Turn = turn })
}

func TestWithout(t *testing.T) {
	x := plated(layered(scene(sourceB), dark, interval(3, 7)), plateP, other(1), other(2))
	for i, want := range [][]ground.Plate{{other(1), other(2)}, {plateP, other(2)}, {plateP, other(1)}} {
		got, e := ground.Without(x, i)
		same(t, "Without", all(i, got, e), all(i, plated(x, want...), api.OK))
	}
	got, e := ground.Without(example(), 0)
	same(t, "Without the last plate", all(got, e), all(scene(sourceB), api.OK))
	for _, i := range badIndices(3) {
		got, e := ground.Without(x, i)
		same(t, "Without no plate", all(i, got, e), all(i, ground.Scene{}, api.ErrUnknown))
	}
	got, e = ground.Without(scene(), 0)
	same(t, "Without, of no plates", all(got, e), all(ground.Scene{}, api.ErrUnknown))
	for i, x := range badScenes() {
		got, e := ground.Without(x.x, 99)
		same(t, "Without with errors of the scene", all(i, got, e), all(i, ground.Scene{}, x.e))
	}
}

func TestMoved(t *testing.T) {
	for _, x := range []struct {
		at, to api.Point
		e      api.Errno
	}{
		{point(4, -2), point(4, 2), api.OK}, {point(0, 0), point(0, 4), api.OK}, {point(-1000, 996), point(-1000, 1000), api.OK}, {point(1000, -1000), point(1000, -996), api.OK},
		{point(0, 997), point(0, 0), api.ErrLarge}, {point(0, 1000), point(0, 0), api.ErrLarge}, {point(0, 1001), point(0, 0), api.ErrRange},
	} {
		want := changed(func(p *ground.Plate) { p.From, p.To = x.at, x.to })
		if x.e != api.OK {
			want = ground.Plate{}
		}
		got, e := ground.Moved(plateP, x.at)
		same(t, "Moved", all(x.at, got, e), all(x.at, want, x.e))
	}
	r := numbers{21}
	for range 3000 {
		far := r.far()
		p, to := r.plate(far), r.point(far)
		want, can := movedOf(p, to)
		wantE := api.OK
		if !can {
			want, wantE = ground.Plate{}, api.ErrLarge
		}
		got, e := ground.Moved(p, to)
		same(t, "Moved", all(p, to, got, e), all(p, to, want, wantE))
	}
	for i, x := range badPoints() {
		got, e := ground.Moved(plateP, x.x)
		same(t, "Moved with errors of the point", all(i, got, e), all(i, ground.Plate{}, x.e))
	}
	for i, x := range badPlates() {
		got, e := ground.Moved(x.x, point(0, 1001))
		same(t, "Moved with errors of the plate", all(i, got, e), all(i, ground.Plate{}, x.e))
	}
}

func TestBend(t *testing.T) {
	silent := changed(func(p *ground.Plate) { p.Factor = interval(0, 0) })
	aside := changed(func(p *ground.Plate) { p.From, p.To = point(4, 3), point(4, 9) })
	mute := ground.Source{At: vector(0, 0, 2), Sideband: gauss(6, 0)}
	for i, x := range []struct {
		x     ground.Scene
		plate int
		mark  api.Vector
		bend  int
	}{
		{example(), 0, markM, 3000}, {plated(scene(), plateP), 0, markM, 0},
		{plated(scene(), silent), 0, markM, 2000000},                                                     // blocks all that there is
		{plated(layered(scene()), aside), 0, markM, 2000000},                                             // without it, what arrives directly and by the mirror adds up to 0
		{ground.Scene{Sources: []ground.Source{mute}, Plates: []ground.Plate{aside}}, 0, markM, 2000000}, // no carrier at all
		// what is left of two plates: the other one blocks, and the needle of what it scatters is 200 or, with the other source, -2200
		{plated(scene(sourceB), plateP, silent), 1, markM, 0}, {plated(scene(sourceB), plateP, silent), 0, markM, 2000000},
		{plated(scene(sourceB), silent, plateP), 0, markM, 0}, {plated(scene(), plateP, other(2)), 0, markM, 2000000}, // both add up to 0
		// the greatest factor counts, not the least one
		{plated(scene(sourceB), changed(func(p *ground.Plate) { p.Factor = interval(0, 200) })), 0, markM, 3000}, {plated(scene(sourceB), changed(func(p *ground.Plate) { p.Factor = interval(200, 1000) })), 0, markM, 600},
		{plated(scene(sourceB), changed(func(p *ground.Plate) { p.Height, p.Factor = 1, interval(0, 0) })), 0, markM, 0},
	} {
		b, e := ground.Bend(x.x, x.plate, x.mark)
		same(t, "Bend", all(i, b, e), all(i, x.bend, api.OK))
		same(t, "the bend by the definition", all(i, bendOf(x.x, x.plate, x.mark)), all(i, x.bend))
	}
	up := ground.Source{At: vector(4, 0, 0), Carrier: gauss(1, 0), Sideband: gauss(2, 0)}
	down := ground.Source{At: vector(0, 0, 0), Sideband: gauss(-100, 0)}
	between := ground.Plate{From: point(2, -2), To: point(2, 2), Height: 9}
	x := ground.Scene{Sources: []ground.Source{up, down}, Layers: []api.Interval{dark}, Plates: []ground.Plate{between}}
	b, e := ground.Bend(x, 0, vector(8, 0, 0))
	same(t, "Bend from 2000 to -98000", all(b, e), all(100000, api.OK))
}

func TestGreatestBend(t *testing.T) {
	// the plate blocks one of both sources only, and turns the needle from one end of its range to the other one
	near := ground.Source{At: vector(4, 0, 0), Carrier: gauss(1, 0), Sideband: gauss(20, 0)}
	strong := ground.Source{At: vector(0, 0, 0), Sideband: gauss(-40, 0)}
	x := ground.Scene{Sources: []ground.Source{near, strong}, Layers: []api.Interval{dark}, Plates: []ground.Plate{{From: point(2, -2), To: point(2, 2), Height: 9}}}
	for i, y := range []struct{ sideband, bend int }{{-40, 40000}, {-100, 100000}, {0, 0}, {1, 1000}} {
		x.Sources[1].Sideband.Re = y.sideband
		b, e := ground.Bend(x, 0, vector(8, 0, 0))
		same(t, "Bend", all(i, b, e), all(i, y.bend, api.OK))
	}
	// the mirror leaves a thousandth of the carrier, and doubles both sidebands, of which the plate blocks the greater one
	near.Sideband = gauss(0, 0)
	strong = ground.Source{At: vector(0, 1, 1), Sideband: gauss(100, 0)}
	rest := ground.Source{At: vector(4, 1, 1), Sideband: gauss(-50, 0)}
	x = ground.Scene{Sources: []ground.Source{near, strong, rest}, Layers: []api.Interval{interval(999, 999)}, Plates: x.Plates}
	mark := vector(8, 0, 1)
	with, e := ground.Needles(x, []int{999, 0}, []api.Vector{mark})
	without, f := ground.Needles(plated(x), []int{999}, []api.Vector{mark})
	same(t, "Needles at both ends of the range", all(with, e, without, f), all([]int{-1000000}, api.OK, []int{1000000}, api.OK))
	b, e := ground.Bend(x, 0, mark)
	same(t, "Bend", all(b, e), all(2000000, api.OK))
	h, e := ground.Harmful(plated(x), x.Plates[0], []api.Point{point(2, -2)}, []api.Vector{mark}, 1999999)
	same(t, "Harmful by the greatest bend", all(h, e), all([]ground.Harm{{At: point(2, -2), Bend: 2000000}}, api.OK))
	h, e = ground.Harmful(plated(x), x.Plates[0], []api.Point{point(2, -2)}, []api.Vector{mark}, 2000000)
	same(t, "Harmful by the greatest limit", all(h, e), all([]ground.Harm{}, api.OK))
}

func TestBendsOfAllScenes(t *testing.T) {
	r := numbers{23}
	for range 1000 {
		far := r.far()
		x, marks := r.scene(far, 5), r.marks(far, 6)
		x = addedOf(x, r.plate(far))
		i := r.below(len(x.Plates))
		got, e := ground.Without(x, i)
		same(t, "Without", all(x, i, got, e), all(x, i, lessOf(x, i), api.OK))
		b, e := ground.Bend(x, i, marks[0])
		same(t, "Bend", all(x, i, marks[0], b, e), all(x, i, marks[0], bendOf(x, i, marks[0]), api.OK))
		b, at, e := ground.Share(x, i, marks)
		wantB, wantAt := shareOf(x, i, marks)
		same(t, "Share", all(x, i, marks, b, at, e), all(x, i, marks, wantB, wantAt, api.OK))
		var want []int
		for i := range x.Plates {
			b, _ := shareOf(x, i, marks)
			want = append(want, b)
		}
		l, e := ground.Shares(x, marks)
		same(t, "Shares", all(x, marks, l, e), all(x, marks, want, api.OK))
	}
}

func TestShare(t *testing.T) {
	free := vector(8, 1, 60) // P blocks nothing there
	x := plated(scene(sourceB), changed(func(p *ground.Plate) { p.Factor = interval(0, 0) }), changed(func(p *ground.Plate) { p.From, p.To = point(-4, 9), point(-4, 10) }))
	x.Plates[0].Height = 1
	for i, y := range []struct {
		x         ground.Scene
		plate     int
		marks     []api.Vector
		share, at int
	}{
		{example(), 0, []api.Vector{markM}, 3000, 0}, {example(), 0, []api.Vector{free, markM, markM}, 3000, 1}, {example(), 0, []api.Vector{markM, free}, 3000, 0},
		{x, 0, []api.Vector{markM, free, markM}, 0, 0},
	} {
		b, at, e := ground.Share(y.x, y.plate, y.marks)
		same(t, "Share", all(i, b, at, e), all(i, y.share, y.at, api.OK))
	}
	l, e := ground.Shares(scene(), []api.Vector{markM})
	same(t, "Shares of no plates", all(l, e), all([]int{}, api.OK))
	l, e = ground.Shares(example(), []api.Vector{free, markM})
	same(t, "Shares", all(l, e), all([]int{3000}, api.OK))
}

func TestShareErrors(t *testing.T) {
	for i, x := range badScenes() {
		b, e := ground.Bend(x.x, 99, vector(0, 0, -1))
		same(t, "Bend with errors of the scene", all(i, b, e), all(i, 0, x.e))
		b, at, e := ground.Share(x.x, 99, nil)
		same(t, "Share with errors of the scene", all(i, b, at, e), all(i, 0, 0, x.e))
		l, e := ground.Shares(x.x, nil)
		same(t, "Shares with errors of the scene", all(i, l, e), all(i, []int{}, x.e))
	}
	for _, i := range badIndices(1) {
		b, e := ground.Bend(example(), i, vector(0, 0, -1))
		same(t, "Bend of no plate", all(i, b, e), all(i, 0, api.ErrUnknown))
		b, at, e := ground.Share(example(), i, nil)
		same(t, "Share of no plate", all(i, b, at, e), all(i, 0, 0, api.ErrUnknown))
	}
	for i, x := range badPlaces() {
		b, e := ground.Bend(example(), 0, x.x)
		same(t, "Bend with errors of the mark", all(i, b, e), all(i, 0, x.e))
	}
	for i, x := range badMarks() {
		b, at, e := ground.Share(example(), 0, x.x)
		same(t, "Share with errors of the marks", all(i, b, at, e), all(i, 0, 0, x.e))
		l, e := ground.Shares(example(), x.x)
		same(t, "Shares with errors of the marks", all(i, l, e), all(i, []int{}, x.e))
	}
}

func TestHarmful(t *testing.T) {
	x, marks := scene(sourceB), []api.Vector{vector(8, 1, 60), markM, markM}
	at, far := point(4, -2), point(-900, 900)
	harm := ground.Harm{At: at, Mark: 1, Bend: 3000}
	for i, y := range []struct {
		x      ground.Scene
		p      ground.Plate
		points []api.Point
		limit  int
		l      []ground.Harm
	}{
		{x, plateP, []api.Point{at}, 2999, []ground.Harm{harm}}, {x, plateP, []api.Point{at}, 3000, nil}, {x, plateP, nil, 0, nil}, {x, plateP, []api.Point{at}, 2000000, nil},
		{x, plateP, []api.Point{at, at}, 0, []ground.Harm{harm, harm}},
		{x, plateP, []api.Point{far, at}, 2999, []ground.Harm{harm}}, {x, plateP, []api.Point{far, at}, 299, []ground.Harm{{At: far, Mark: 0, Bend: 300}, harm}}, {x, plateP, []api.Point{far, at}, 300, []ground.Harm{harm}},
		{x, plateP, slices.Repeat([]api.Point{at}, 32), 0, slices.Repeat([]ground.Harm{harm}, 32)},
		// where the plate comes from makes no difference
		{x, changed(func(p *ground.Plate) { p.From, p.To = point(-1000, -1000), point(-1000, -996) }), []api.Point{at}, 2999, []ground.Harm{harm}},
	} {
		l, e := ground.Harmful(y.x, y.p, y.points, marks, y.limit)
		same(t, "Harmful", all(i, l, e), all(i, y.l, api.OK))
	}
	five := plated(x, slices.Repeat([]ground.Plate{changed(func(p *ground.Plate) { p.Height, p.Factor = 1, interval(0, 0) })}, 5)...)
	l, e := ground.Harmful(five, plateP, []api.Point{at}, marks, 2999)
	same(t, "Harmful with five plates", all(l, e), all([]ground.Harm{harm}, api.OK))
}

func TestHarmfulInAllScenes(t *testing.T) {
	r := numbers{25}
	harms, harmless := 0, 0
	for range 400 {
		far := r.far()
		x, p, marks, limit := r.scene(far, 5), r.plate(far), r.marks(far, 4), []int{0, 10, 500, 1000000}[r.below(4)]
		var points []api.Point
		for range r.below(6) {
			points = append(points, r.point(min(far, 300)))
		}
		want, wantE := []ground.Harm{}, api.OK
		for _, at := range points {
			moved, can := movedOf(p, at)
			if !can {
				want, wantE = []ground.Harm{}, api.ErrLarge
				break
			}
			if bend, mark := shareOf(addedOf(x, moved), len(x.Plates), marks); bend > limit {
				want = append(want, ground.Harm{At: at, Mark: mark, Bend: bend})
				harms++
			} else {
				harmless++
			}
		}
		l, e := ground.Harmful(x, p, points, marks, limit)
		same(t, "Harmful", all(x, p, points, marks, limit, l, e), all(x, p, points, marks, limit, want, wantE))
	}
	same(t, "are there harmful and harmless points", all(harms > 100, harmless > 100), all(true, true))
}

func TestHarmfulErrors(t *testing.T) {
	x, marks, at := scene(sourceB), []api.Vector{markM}, []api.Point{point(4, -2)}
	flat := changed(func(p *ground.Plate) { p.To = p.From })
	away := []api.Point{point(0, 1001)}
	check := func(what string, i int, x ground.Scene, p ground.Plate, points []api.Point, marks []api.Vector, limit int, want api.Errno) {
		t.Helper()
		l, e := ground.Harmful(x, p, points, marks, limit)
		same(t, "Harmful: "+what, all(i, l, e), all(i, []ground.Harm{}, want))
	}
	for i, y := range badScenes() {
		check("scene", i, y.x, flat, away, nil, -1, y.e)
	}
	for i, y := range badPlates() {
		check("plate", i, full(), y.x, away, nil, -1, y.e)
	}
	for i, y := range badPoints() {
		check("points", i, full(), plateP, []api.Point{point(0, 1000), y.x}, nil, -1, y.e)
	}
	check("too many points", 0, full(), plateP, slices.Repeat(away, 33), nil, -1, api.ErrMany)
	for i, y := range badMarks() {
		check("marks", i, full(), plateP, []api.Point{point(0, 1000)}, y.x, -1, y.e)
	}
	for i, limit := range badLimits {
		check("limit", i, full(), plateP, []api.Point{point(0, 1000)}, marks, limit, api.ErrRange)
	}
	check("room", 0, full(), plateP, []api.Point{point(0, 1000)}, marks, 0, api.ErrMany)
	check("room without points", 0, full(), plateP, nil, marks, 2000000, api.ErrMany)
	check("large", 0, x, plateP, append(at, point(0, 997)), marks, 0, api.ErrLarge)
	check("large", 1, x, changed(func(p *ground.Plate) { p.From, p.To = point(0, 0), point(-5, 0) }), []api.Point{point(-996, 0)}, marks, 0, api.ErrLarge)
}

func TestCheckHarm(t *testing.T) {
	x, marks := scene(sourceB), []api.Vector{vector(8, 1, 60), markM, markM}
	good := ground.Harm{At: point(4, -2), Mark: 1, Bend: 3000}
	for i, y := range []struct {
		limit int
		h     ground.Harm
		e     api.Errno
	}{
		{2999, good, api.OK}, {0, good, api.OK}, {3000, good, api.ErrProof}, {2000000, good, api.ErrProof},
		{2999, ground.Harm{At: good.At, Mark: 2, Bend: 3000}, api.OK}, // any mark with a bend above the limit proves it
		{199, ground.Harm{At: good.At, Mark: 0, Bend: 200}, api.OK}, {200, ground.Harm{At: good.At, Mark: 0, Bend: 200}, api.ErrProof}, {0, ground.Harm{At: good.At, Mark: 0, Bend: 3000}, api.ErrProof},
		{2999, ground.Harm{At: good.At, Mark: 1, Bend: 3001}, api.ErrProof}, {2990, ground.Harm{At: good.At, Mark: 1, Bend: 2999}, api.ErrProof}, {0, ground.Harm{At: good.At, Mark: 1, Bend: -3000}, api.ErrProof}, {0, ground.Harm{At: good.At, Mark: 1}, api.ErrProof},
		{0, ground.Harm{At: point(-900, 900), Mark: 1, Bend: 3000}, api.ErrProof},
	} {
		same(t, "CheckHarm", all(i, ground.CheckHarm(x, plateP, marks, y.limit, y.h)), all(i, y.e))
	}
}

func TestCheckHarmErrors(t *testing.T) {
	x, marks := scene(sourceB), []api.Vector{markM}
	good := ground.Harm{At: point(4, -2), Bend: 3000}
	wrong := ground.Harm{At: point(0, 1001), Mark: 1}
	flat := changed(func(p *ground.Plate) { p.To = p.From })
	for i, y := range badScenes() {
		same(t, "CheckHarm with errors of the scene", all(i, ground.CheckHarm(y.x, flat, nil, -1, wrong)), all(i, y.e))
	}
	for i, y := range badPlates() {
		same(t, "CheckHarm with errors of the plate", all(i, ground.CheckHarm(full(), y.x, nil, -1, wrong)), all(i, y.e))
	}
	for i, y := range badMarks() {
		same(t, "CheckHarm with errors of the marks", all(i, ground.CheckHarm(full(), plateP, y.x, -1, wrong)), all(i, y.e))
	}
	for i, limit := range badLimits {
		same(t, "CheckHarm with errors of the limit", all(i, ground.CheckHarm(full(), plateP, marks, limit, wrong)), all(i, api.ErrRange))
	}
	for i, y := range badPoints() {
		same(t, "CheckHarm with errors of the point", all(i, ground.CheckHarm(full(), plateP, marks, 0, ground.Harm{At: y.x, Mark: 1})), all(i, y.e))
	}
	for _, i := range badIndices(1) {
		h := ground.Harm{At: point(0, 1000), Mark: i}
		same(t, "CheckHarm with errors of the mark", all(i, ground.CheckHarm(full(), plateP, marks, 0, h)), all(i, api.ErrUnknown))
	}
	for i, y := range []struct {
		x ground.Scene
		h ground.Harm
		e api.Errno
	}{{full(), ground.Harm{At: point(0, 1000)}, api.ErrMany}, {full(), good, api.ErrMany}, {x, ground.Harm{At: point(0, 997)}, api.ErrLarge}, {x, ground.Harm{At: point(0, 996)}, api.ErrProof}, {x, good, api.OK}} {
		same(t, "CheckHarm with errors of the result", all(i, ground.CheckHarm(y.x, plateP, marks, 0, y.h)), all(i, y.e))
	}
}
