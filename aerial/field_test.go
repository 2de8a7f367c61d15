package aerial_test

import (
	"math"
	"slices"
	"testing"

	"glideslope/aerial"
	"glideslope/api"
)

// The tests of this file are those of P3.1.

// largest returns eight aerials with the greatest feeds.
func largest() []aerial.Aerial {
	var l []aerial.Aerial
	for at := -4; at < 4; at++ {
		l = append(l, aerial.Aerial{At: at, Carrier: 100 + 100i, Side: -100 - 100i})
	}
	return l
}

func TestCheckArray(t *testing.T) {
	minus := math.Copysign(0, -1)
	for i, l := range [][]aerial.Aerial{example(), one(0, 0), one(100-100i, -100+100i), largest(), {{At: 4}, {At: -4}}, one(complex(minus, minus), complex(0, minus))} {
		same(t, "CheckArray", all(i, aerial.CheckArray(l)), all(i, api.OK))
	}
	for i, x := range badArrays() {
		same(t, "CheckArray with errors", all(i, aerial.CheckArray(x.l)), all(i, x.e))
	}
}

func TestCheckDirection(t *testing.T) {
	for i, x := range badDirections() {
		same(t, "CheckDirection with errors", all(i, aerial.CheckDirection(x.d)), all(i, x.e))
	}
	// 4 for each whole, and 8 more for 5, 10 and 13
	same(t, "directions", all(len(directions())), all(4*13+8*3))
	for whole := -1; whole <= 15; whole++ {
		for re := -15; re <= 15; re++ {
			for im := -15; im <= 15; im++ {
				d, want := direction(re, im, whole), api.OK
				if whole < 1 || whole > 13 || max(absolute(re), absolute(im)) > 13 {
					want = api.ErrRange
				} else if re*re+im*im != whole*whole {
					want = api.ErrForm
				}
				same(t, "CheckDirection", all(d, aerial.CheckDirection(d)), all(d, want))
			}
		}
	}
}

func TestPhase(t *testing.T) {
	for _, x := range []struct {
		d     aerial.Direction
		at    int
		phase api.Gauss
	}{
		{right, 0, gauss(625, 0)}, {right, 1, gauss(500, 375)}, {right, -1, gauss(500, -375)}, {right, 2, gauss(175, 600)},
		{right, 4, gauss(-527, 336)}, {right, -4, gauss(-527, -336)}, {left, 2, gauss(175, -600)},
		{straight, 3, gauss(1, 0)}, {direction(0, 1, 1), 3, gauss(0, -1)}, {direction(0, 1, 1), -3, gauss(0, 1)}, {direction(-1, 0, 1), 1, gauss(-1, 0)},
		{direction(13, 0, 13), 0, gauss(28561, 0)}, {direction(0, -13, 13), 4, gauss(28561, 0)}, {direction(2, 0, 2), -4, gauss(16, 0)},
	} {
		p, e := aerial.Phase(x.d, x.at)
		same(t, "Phase", all(x.d, x.at, p, e), all(x.d, x.at, x.phase, api.OK))
	}
	for _, d := range directions() {
		for at := -4; at <= 4; at++ {
			p, e := aerial.Phase(d, at)
			same(t, "Phase", all(d, at, p, e), all(d, at, phaseOf(d, at), api.OK))
			same(t, "square of a phase", all(squareOf(p)), all(int(math.Pow(float64(d.Whole), 8))))
		}
	}
	for _, at := range []int{-5, 5, math.MinInt, math.MaxInt} {
		p, e := aerial.Phase(right, at)
		same(t, "Phase of no distance", all(at, p, e), all(at, gauss(0, 0), api.ErrRange))
	}
	for i, x := range badDirections() {
		p, e := aerial.Phase(x.d, 5)
		same(t, "Phase with errors", all(i, p, e), all(i, gauss(0, 0), x.e))
	}
}

func TestFields(t *testing.T) {
	for i, x := range []struct {
		l             []aerial.Aerial
		d             aerial.Direction
		carrier, side complex128
	}{
		{example(), right, 6250, -1500}, {example(), straight, 10, 0}, {example(), left, 6250, 1500},
		{one(1+2i, -3), direction(0, 5, 5), 625 + 1250i, -1875},
		{largest(), straight, 800 + 800i, -800 - 800i}, {largest(), direction(13, 0, 13), 22848800 + 22848800i, -22848800 - 22848800i},
		{largest(), direction(-1, 0, 1), 0, 0},
		{[]aerial.Aerial{{At: 4, Carrier: 1, Side: 1i}, {At: -4, Carrier: 1i}}, right, -191 - 191i, -336 - 527i},
	} {
		carrier, side, e := aerial.Fields(x.l, x.d)
		same(t, "Fields", all(i, carrier, side, e), all(i, x.carrier, x.side, api.OK))
	}
	r := numbers{1}
	for range 3000 {
		l, d := r.sized(), r.direction()
		carrier, side, e := aerial.Fields(l, d)
		c, s := fieldsOf(l, d)
		same(t, "Fields", all(l, d, carrier, side, e), all(l, d, number(c), number(s), api.OK))
	}
}

func TestNeedle(t *testing.T) {
	for i, x := range []struct {
		l      []aerial.Aerial
		d      aerial.Direction
		needle int
	}{
		{example(), left, 240}, {example(), straight, 0}, {example(), right, -240},
		{one(10, 3), left, 300}, {one(10, 3), straight, 300}, {one(10, 3), direction(0, -13, 13), 300},
		{one(16, 1), straight, 63}, {one(16, -1), straight, -62}, {one(16, 3), straight, 188}, {one(16, -3), straight, -187}, // 62.5, 187.5
		{one(3, 1), straight, 333}, {one(3, -1), straight, -333}, {one(3, 2), straight, 667}, {one(3, -2), straight, -667},
		{one(10, 3i), straight, 0}, {one(10i, 3), straight, 0}, {one(10i, 3i), straight, 300}, {one(-10, 3), straight, -300}, {one(1+1i, 1), straight, 500},
		{one(40, 0), straight, 0}, {one(1, 100), straight, 100000}, {one(1, -100), straight, -100000},
	} {
		n, e := aerial.Needle(x.l, x.d)
		same(t, "Needle", all(i, n, e), all(i, x.needle, api.OK))
	}
	r := numbers{3}
	for range 3000 {
		l, d := r.sized(), r.direction()
		want, is := needleOf(l, d)
		n, e := aerial.Needle(l, d)
		same(t, "Needle", all(l, d, n, e), all(l, d, want, errorUnless(is)))
	}
}

// errorUnless returns ErrZero if something is not so.
func errorUnless(is bool) api.Errno {
	if !is {
		return api.ErrZero
	}
	return api.OK
}

// near returns an array whose carrier field at R is 125 times -1 - 2i, and whose side feeds are turned so far that they add up there, or nearly so.
func near(sign float64) []aerial.Aerial {
	f := func(re, im float64) complex128 { return complex(sign*re, sign*im) }
	return []aerial.Aerial{
		{At: 0, Carrier: -1 - 1i, Side: f(-60, -100)}, {At: 1, Carrier: 1, Side: f(-100, -60)}, {At: 2, Side: f(-100, 0)},
		{At: -1, Side: f(0, -100)}, {At: -2, Side: f(60, -100)}, {At: -3, Side: f(100, -60)}, {At: -4, Side: f(100, 60)},
	}
}

func TestNeedleIsHeld(t *testing.T) {
	same(t, "Needle", needleResults(near(1), right), all(1000000, api.OK))
	same(t, "Needle", needleResults(near(-1), right), all(-1000000, api.OK))
	r := numbers{5}
	held := 0
	for range 30000 {
		l, d := r.array(8, 100), r.direction()
		c, _ := fieldsOf(l[1:], d)
		p := phaseOf(d, l[0].At)
		// the first feed nearly makes the carrier field 0
		q := times(c, gauss(-p.Re, p.Im))
		l[0].Carrier = number(gauss(nearestOf(ratOf(q.Re, squareOf(p))), nearestOf(ratOf(q.Im, squareOf(p)))))
		if aerial.CheckArray(l) != api.OK {
			continue
		}
		want, is := needleOf(l, d)
		same(t, "Needle", needleResults(l, d), all(want, errorUnless(is)))
		if absolute(want) == 1000000 {
			held++
		}
	}
	same(t, "are needles held", all(held > 10), all(true))
}

func needleResults(l []aerial.Aerial, d aerial.Direction) []any {
	n, e := aerial.Needle(l, d)
	return all(n, e)
}

func TestNeedles(t *testing.T) {
	n, e := aerial.Needles(example(), scan())
	same(t, "Needles", all(n, e), all([]int{240, 0, -240}, api.OK))
	n, e = aerial.Needles(example(), []aerial.Direction{right, right, left, right, straight, straight})
	same(t, "Needles with the same directions", all(n, e), all([]int{-240, -240, 240, -240, 0, 0}, api.OK))
	n, e = aerial.Needles(one(10, 3), slices.Repeat([]aerial.Direction{right}, 32))
	same(t, "Needles of 32", all(n, e), all(slices.Repeat([]int{300}, 32), api.OK))
	r := numbers{7}
	for range 500 {
		l, s := r.sized(), r.scan()
		want, there := needlesOf(l, s)
		n, e := aerial.Needles(l, s)
		same(t, "Needles", all(l, s, n, e), all(l, s, want, errorUnless(there)))
	}
}

// needlesOf is the needle at each direction of a scan, and whether all are there.
func needlesOf(l []aerial.Aerial, scan []aerial.Direction) ([]int, bool) {
	var out []int
	for _, d := range scan {
		n, is := needleOf(l, d)
		if !is {
			return nil, false
		}
		out = append(out, n)
	}
	return out, true
}

// dark has no carrier field at the direction -1, and one at 1.
func dark() []aerial.Aerial {
	return []aerial.Aerial{{At: 0, Carrier: 1, Side: 1}, {At: 1, Carrier: 1, Side: -1}}
}

var back = direction(-1, 0, 1)

func TestNoCarrierField(t *testing.T) {
	same(t, "Needle", needleResults(dark(), back), all(0, api.ErrZero))
	same(t, "Needle", needleResults(dark(), straight), all(0, api.OK))
	same(t, "Needle", needleResults(one(0, 5), straight), all(0, api.ErrZero))
	for _, s := range [][]aerial.Direction{{back, straight}, {straight, back}, {straight, straight, back}, {straight, direction(-5, 0, 5)}} {
		n, e := aerial.Needles(dark(), s)
		same(t, "Needles", all(s, n, e), all(s, []int{}, api.ErrZero))
	}
	b, e := aerial.Bounds(dark(), back, 0)
	same(t, "Bounds", all(b, e), all(api.Interval{}, api.ErrZero))
}

func TestBounds(t *testing.T) {
	for i, x := range []struct {
		l   []aerial.Aerial
		d   aerial.Direction
		err int
		b   api.Interval
		e   api.Errno
	}{
		{one(10, 3), straight, 1, interval(139, 556), api.OK}, {one(10, 3), straight, 0, interval(300, 300), api.OK},
		{one(10, -3), straight, 1, interval(-556, -139), api.OK},
		{one(3, 1), straight, 0, interval(333, 334), api.OK}, {one(3, -1), straight, 0, interval(-334, -333), api.OK},
		{one(10, 0), straight, 1, interval(-149, 149), api.OK},                                                                                                                  // 12000 by 81
		{one(1, 3), straight, 1, api.Interval{}, api.ErrZero}, {one(1+1i, 3), straight, 1, api.Interval{}, api.ErrZero}, {one(2, 3), straight, 1, interval(100, 13000), api.OK}, // P from 1 to 13, Q from 1 to 10
		{one(21, 100), straight, 20, interval(-320000, 1000000), api.OK}, {one(21, -100), straight, 20, interval(-1000000, 320000), api.OK},
		{one(0, 3), straight, 0, api.Interval{}, api.ErrZero},
		{example(), left, 0, interval(240, 240), api.OK}, {example(), right, 0, interval(-240, -240), api.OK},
		{example(), straight, -1, api.Interval{}, api.ErrRange}, {example(), straight, 21, api.Interval{}, api.ErrRange}, {one(0, 0), straight, 21, api.Interval{}, api.ErrRange}, {example(), straight, math.MaxInt, api.Interval{}, api.ErrRange}, {example(), straight, math.MinInt, api.Interval{}, api.ErrRange},
	} {
		b, e := aerial.Bounds(x.l, x.d, x.err)
		same(t, "Bounds", all(i, b, e), all(i, x.b, x.e))
	}
	r := numbers{9}
	for range 5000 {
		l, d, err := r.sized(), r.direction(), r.below(21)*r.below(2)
		want, is := boundsOf(l, d, err)
		b, e := aerial.Bounds(l, d, err)
		same(t, "Bounds", all(l, d, err, b, e), all(l, d, err, want, errorUnless(is)))
	}
	b, e := aerial.Bounds(largest(), direction(13, 0, 13), 20)
	want, is := boundsOf(largest(), direction(13, 0, 13), 20)
	same(t, "Bounds of the greatest fields", all(b, e, is), all(want, api.OK, true))
}

func TestErrorsOfFields(t *testing.T) {
	for i, x := range badArrays() {
		c, s, e := aerial.Fields(x.l, aerial.Direction{})
		same(t, "Fields with errors of an array", all(i, c, s, e), all(i, 0i, 0i, x.e))
		same(t, "Needle with errors of an array", all(i, needleResults(x.l, direction(1, 1, 1))), all(i, all(0, x.e)))
		n, e := aerial.Needles(x.l, nil)
		same(t, "Needles with errors of an array", all(i, n, e), all(i, []int{}, x.e))
		b, e := aerial.Bounds(x.l, aerial.Direction{}, 21)
		same(t, "Bounds with errors of an array", all(i, b, e), all(i, api.Interval{}, x.e))
	}
	for i, x := range badDirections() {
		c, s, e := aerial.Fields(example(), x.d)
		same(t, "Fields with errors of a direction", all(i, c, s, e), all(i, 0i, 0i, x.e))
		same(t, "Needle with errors of a direction", all(i, needleResults(one(0, 0), x.d)), all(i, all(0, x.e)))
		b, e := aerial.Bounds(example(), x.d, 21)
		same(t, "Bounds with errors of a direction", all(i, b, e), all(i, api.Interval{}, x.e))
	}
	for i, x := range badScans() {
		n, e := aerial.Needles(one(0, 0), x.l)
		same(t, "Needles with errors of a scan", all(i, n, e), all(i, []int{}, x.e))
	}
}
