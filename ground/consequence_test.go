package ground_test

import (
	"math"
	"slices"
	"testing"

	"glideslope/api"
	"glideslope/ground"
)

// The tests of this file are those of P4.5, and of the rules that hold for all functions: P1, memory and determinism.

// fieldResults returns the fields at a mark.
func fieldResults(x ground.Scene, factors []int, mark api.Vector) []any {
	c, s, e := ground.Fields(x, factors, mark)
	return all(c, s, e)
}

func TestFieldsAreTheSumsOfSources(t *testing.T) {
	r := numbers{41}
	for range 1000 {
		far := r.far()
		x, mark := r.scene(far, 6), r.place(far)
		factors := r.factors(x)
		for i := 1; i < len(x.Sources); i++ {
			first, rest := x, x
			first.Sources, rest.Sources = x.Sources[:i], x.Sources[i:]
			a, b, e := ground.Fields(first, factors, mark)
			c, d, f := ground.Fields(rest, factors, mark)
			same(t, "sums of the fields of parts", all(plus(a, c), plus(b, d), max(e, f)), fieldResults(x, factors, mark))
		}
	}
}

// liesIn reports whether a field lies in its box.
func liesIn(g api.Gauss, b ground.Box) bool {
	return g.Re >= b.Re.Low && g.Re <= b.Re.High && g.Im >= b.Im.Low && g.Im <= b.Im.High
}

func TestFieldsLieInBoxes(t *testing.T) {
	r := numbers{43}
	enclosed := 0
	for range 1000 {
		far := r.far()
		x, mark := r.scene(far, 6), r.place(far)
		boxes, e := ground.Boxes(x, mark)
		same(t, "Boxes", all(e), all(api.OK))
		bounds, noBounds := ground.Bounds(boxes)
		l, noEnclosure := ground.Enclosed(x, []api.Vector{mark})
		if noBounds == api.OK {
			same(t, "Enclosed", all(l, noEnclosure), all([]api.Interval{bounds}, api.OK))
			enclosed++
		} else {
			same(t, "no bounds", all(noBounds, noEnclosure), all(api.ErrZero, api.ErrZero))
		}
		for range 20 {
			factors := r.factors(x)
			c, s, _ := ground.Fields(x, factors, mark)
			if !liesIn(c, boxes[0]) || !liesIn(s, boxes[1]) {
				t.Errorf("Fields(%v, %v, %v): %v, %v, outside of %v", x, factors, mark, c, s, boxes)
			}
			n, noNeedle := ground.Needle(c, s)
			if noBounds == api.OK && (noNeedle != api.OK || n < bounds.Low || n > bounds.High) {
				t.Errorf("Needle(%v, %v): %v, %v, outside of %v", c, s, n, noNeedle, bounds)
			}
		}
	}
	same(t, "are there bounds", all(enclosed > 300), all(true))
}

// narrowed returns an interval within another one.
func (r *numbers) narrowed(x api.Interval) api.Interval {
	low := x.Low + r.below(x.High-x.Low+1)
	return interval(low, low+r.below(x.High-low+1))
}

// encloses reports whether an interval has all numbers of another one.
func encloses(wide, narrow api.Interval) bool {
	return wide.Low <= narrow.Low && wide.High >= narrow.High
}

func TestNarrowerFactors(t *testing.T) {
	r := numbers{45}
	for range 2000 {
		far := r.far()
		x, mark := r.scene(far, 4), r.place(far)
		narrow := x
		narrow.Layers, narrow.Plates = slices.Clone(x.Layers), slices.Clone(x.Plates)
		for i, l := range x.Layers {
			narrow.Layers[i] = r.narrowed(l)
		}
		for i, p := range x.Plates {
			narrow.Plates[i].Factor = r.narrowed(p.Factor)
		}
		a, _ := ground.Mirror(x.Layers)
		b, _ := ground.Mirror(narrow.Layers)
		same(t, "narrower mirror", all(x.Layers, narrow.Layers, encloses(a, b)), all(x.Layers, narrow.Layers, true))
		wide, _ := ground.Boxes(x, mark)
		boxes, _ := ground.Boxes(narrow, mark)
		for i := range boxes {
			same(t, "narrower boxes", all(x, narrow, mark, encloses(wide[i].Re, boxes[i].Re), encloses(wide[i].Im, boxes[i].Im)), all(x, narrow, mark, true, true))
		}
		bounds, e := ground.Bounds(wide)
		if e != api.OK {
			continue
		}
		within, e := ground.Bounds(boxes)
		same(t, "narrower bounds", all(x, narrow, mark, encloses(bounds, within), e), all(x, narrow, mark, true, api.OK))
	}
}

func TestBlockedInBothDirections(t *testing.T) {
	r := numbers{47}
	for range 3000 {
		far := r.far()
		x, a, b := r.scene(far, 6), r.place(far), r.place(far)
		there, e := ground.Blocking(x, a, b)
		back, f := ground.Blocking(x, b, a)
		same(t, "Blocking in both directions", all(there, e), all(back, f))
		for i := range x.Plates {
			p := &x.Plates[i]
			p.From, p.To, p.Turn, p.Factor = p.To, p.From, r.below(4), r.interval()
		}
		turned, e := ground.Blocking(x, a, b)
		same(t, "Blocking by other turns and factors, and with both points exchanged", all(turned, e), all(there, f))
	}
}

func TestOrderMakesNoDifference(t *testing.T) {
	r := numbers{49}
	for range 500 {
		far := r.far()
		x, marks := r.scene(far, 5), r.marks(far, 4)
		factors := r.factors(x)
		back := x
		back.Sources, back.Plates = slices.Clone(x.Sources), slices.Clone(x.Plates)
		slices.Reverse(back.Sources)
		slices.Reverse(back.Plates)
		factorsBack := slices.Clone(factors)
		slices.Reverse(factorsBack[1:])
		same(t, "Fields in another order", fieldResults(back, factorsBack, marks[0]), fieldResults(x, factors, marks[0]))
		a, e := ground.Boxes(x, marks[0])
		b, f := ground.Boxes(back, marks[0])
		same(t, "Boxes in another order", all(b, f), all(a, e))
		shares, e := ground.Shares(x, marks)
		sharesBack, f := ground.Shares(back, marks)
		slices.Reverse(sharesBack)
		same(t, "Shares in another order", all(sharesBack, f), all(shares, e))
		l, e := ground.Blocking(x, x.Sources[0].At, marks[0])
		m, f := ground.Blocking(back, x.Sources[0].At, marks[0])
		slices.Reverse(m)
		for i := range m {
			m[i] = len(x.Plates) - 1 - m[i]
		}
		same(t, "Blocking in another order", all(m, f), all(l, e))
	}
}

func TestNothingIsBent(t *testing.T) {
	r := numbers{51}
	count := 0
	for range 2000 {
		far := r.far()
		x, mark, p := r.scene(far, 5), r.place(far), r.plate(far)
		p.Factor = interval(0, 0)
		x = addedOf(x, p)
		last := len(x.Plates) - 1
		blocks := false
		for _, s := range x.Sources {
			for _, from := range []api.Vector{s.At, imageOf(s.At)} {
				l, _ := ground.Blocking(x, from, mark)
				blocks = blocks || slices.Contains(l, last)
			}
		}
		factors, _ := ground.Greatest(x)
		_, e := ground.Needles(x, factors, []api.Vector{mark})
		if blocks || e != api.OK {
			continue
		}
		count++
		b, e := ground.Bend(x, last, mark)
		same(t, "Bend", all(x, mark, b, e), all(x, mark, 0, api.OK))
	}
	same(t, "are there such plates", all(count > 500), all(true))
}

func TestHarmIsProved(t *testing.T) {
	r := numbers{53}
	for range 400 {
		far := r.far()
		x, p, marks, limit := r.scene(far, 4), r.plate(far), r.marks(far, 4), []int{0, 10, 500}[r.below(3)]
		points := []api.Point{r.point(min(far, 20)), r.point(min(far, 20)), p.From}
		l, e := ground.Harmful(x, p, points, marks, limit)
		if e != api.OK {
			continue
		}
		for _, h := range l {
			same(t, "CheckHarm", all(h, ground.CheckHarm(x, p, marks, limit, h)), all(h, api.OK))
			h.Bend++
			same(t, "CheckHarm of another bend", all(h, ground.CheckHarm(x, p, marks, limit, h)), all(h, api.ErrProof))
		}
		for _, at := range points {
			if slices.ContainsFunc(l, func(h ground.Harm) bool { return h.At == at }) {
				continue
			}
			moved, _ := ground.Moved(p, at)
			for i, mark := range marks {
				b, _ := ground.Bend(addedOf(x, moved), len(x.Plates), mark)
				h := ground.Harm{At: at, Mark: i, Bend: b}
				same(t, "CheckHarm at a point that is not harmful", all(h, ground.CheckHarm(x, p, marks, limit, h)), all(h, api.ErrProof))
			}
		}
	}
}

// P1: no function panics, whatever its arguments are.
func TestNoPanics(t *testing.T) {
	ints := []int{math.MinInt, -1000000000, -1, 0, 1, 3, 1000000000, math.MaxInt}
	for _, a := range ints {
		for _, b := range ints {
			v, p, band := vector(a, b, a), changed(func(p *ground.Plate) { p.From, p.To = point(a, b), point(b, a) }), interval(a, b)
			odd := ground.Plate{Height: a, Factor: band, Turn: b}
			for _, x := range []ground.Scene{
				{}, example(), full(), {Sources: []ground.Source{{At: v, Carrier: gauss(a, b)}}}, {Sources: []ground.Source{{Sideband: gauss(b, a)}}, Layers: []api.Interval{band}},
				{Sources: []ground.Source{{}}, Plates: []ground.Plate{p}}, {Sources: []ground.Source{{}}, Plates: []ground.Plate{odd}}, {Layers: []api.Interval{band}, Plates: []ground.Plate{p}},
			} {
				for _, marks := range [][]api.Vector{nil, {v}, {markM, v}, {markM}} {
					noPanic(t, "fields", func() { ground.CheckScene(x); ground.CheckFactors(x, []int{a, b}); ground.Greatest(x) })
					noPanic(t, "needles", func() {
						ground.Needles(x, []int{a, b}, marks)
						ground.Needles(x, nil, marks)
						ground.Enclosed(x, marks)
					})
					noPanic(t, "plates", func() { ground.Share(x, a, marks); ground.Share(x, 0, marks); ground.Shares(x, marks) })
					for _, q := range []ground.Plate{p, odd, plateP} {
						noPanic(t, "Harmful", func() {
							ground.Harmful(x, q, []api.Point{point(a, b)}, marks, b)
							ground.Harmful(x, q, []api.Point{point(4, -2), point(b, a)}, marks, 0)
							ground.CheckHarm(x, q, marks, 0, ground.Harm{At: point(a, b), Mark: b, Bend: a})
							ground.CheckHarm(x, q, marks, b, ground.Harm{Mark: a, Bend: b})
						})
					}
				}
				noPanic(t, "a mark", func() {
					ground.Blocking(x, v, markM)
					ground.Blocking(x, markM, v)
					ground.Boxes(x, v)
					ground.Boxes(x, markM)
				})
				noPanic(t, "Fields", func() {
					ground.Fields(x, []int{a, b}, v)
					ground.Fields(x, []int{0, 200}, v)
					ground.Fields(x, []int{b}, markM)
				})
				noPanic(t, "a plate", func() {
					ground.Without(x, a)
					ground.Without(x, 0)
					ground.Bend(x, a, v)
					ground.Bend(x, 0, v)
					ground.Bend(x, 0, markM)
				})
			}
			noPanic(t, "numbers", func() {
				ground.Way(v, v)
				ground.Way(markM, v)
				ground.Mirror([]api.Interval{band})
				ground.Needle(gauss(a, b), gauss(b, a))
			})
			noPanic(t, "Bounds", func() {
				ground.Bounds([2]ground.Box{box(band, band), box(band, band)})
				ground.Bounds([2]ground.Box{box(interval(1, 1), band), {}})
			})
			noPanic(t, "Moved", func() {
				ground.Moved(p, point(b, b))
				ground.Moved(plateP, point(a, b))
				ground.Moved(odd, point(a, b))
			})
			noPanic(t, "Print", func() { ground.Print([]ground.Plate{p, odd}); ground.Print([]ground.Plate{odd}) })
		}
	}
	r := numbers{55}
	for range 2000 {
		s := make([]byte, r.below(60))
		for i := range s {
			s[i] = []byte{' ', ' ', '\n', '-', '0', '1', byte(r.below(256))}[r.below(7)]
		}
		noPanic(t, "Parse", func() { ground.Parse("plate 1 0 0 0 5 " + string(s)) })
	}
}

// Arguments stay as they are, and a result that is changed changes neither an argument nor a later result.
func TestMemory(t *testing.T) {
	plates := []ground.Plate{plateP, other(1), other(2), other(3)}
	x := plated(layered(scene(sourceB), interval(0, 900), interval(5, 900)), plates[:3]...)
	x.Plates, x.Sources = plates[:3], append(x.Sources, sourceA)[:2] // what is behind a list is not written to
	marks := []api.Vector{markM, vector(8, 0, 30), vector(8, 1, 2)}
	points := []api.Point{point(4, -2), point(3, -2)}
	factors := []int{500, 150, 150, 150}
	before := shown(plates, x, x.Sources[:3], marks, points, factors)
	once := func() string {
		a, _ := ground.Blocking(x, sourceA.At, markM)
		b, _ := ground.Greatest(x)
		c, _ := ground.Needles(x, factors, marks)
		d, _ := ground.Enclosed(x, marks[1:])
		f, e := ground.Without(x, 1)
		g, _ := ground.Shares(x, marks)
		h, _ := ground.Harmful(x, plateP, points, marks, 0)
		same(t, "are there results", all(e, len(a) > 0, len(b) > 0, len(c) > 0, len(d) > 0, len(g) > 0, len(h) > 0), all(api.OK, true, true, true, true, true, true))
		text, _ := ground.Print(x.Plates)
		n, _, _ := ground.Parse(text)
		rest := all(fieldResults(x, factors, markM), ground.CheckFactors(x, factors))
		out := shown(a, b, c, d, f, g, h, text, n, rest)
		clear(a)
		clear(b)
		clear(c)
		clear(d)
		clear(f.Sources)
		clear(f.Layers)
		clear(f.Plates)
		clear(g)
		clear(h)
		clear(n)
		return out
	}
	want := once()
	for range 5 {
		same(t, "results again", all(once()), all(want))
	}
	same(t, "arguments", all(shown(plates, x, x.Sources[:3], marks, points, factors)), all(before))
}
