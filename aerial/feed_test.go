package aerial_test

import (
	"math"
	"slices"
	"testing"

	"glideslope/aerial"
	"glideslope/api"
)

// The tests of this file are those of P3.3.

// matrix returns a matrix of as many rows and numbers, with 0 everywhere.
func matrix(n int) [][]complex128 {
	l := make([][]complex128, n)
	for i := range l {
		l[i] = make([]complex128, n)
	}
	return l
}

// with returns a matrix with one number changed.
func with(m [][]complex128, i, j int, x complex128) [][]complex128 {
	m[i][j] = x
	return m
}

func TestCoupled(t *testing.T) {
	two := func(a, b complex128) []aerial.Aerial { return []aerial.Aerial{{At: 3, Carrier: a}, {At: -2, Side: b}} }
	for i, x := range []struct {
		l   []aerial.Aerial
		m   [][]complex128
		out []aerial.Aerial
		e   api.Errno
	}{
		{example(), with(matrix(3), 0, 1, 100), []aerial.Aerial{{At: -1, Carrier: 1, Side: -2i}, {At: 0, Carrier: 10}, {At: 1, Side: 2i}}, api.OK},
		{example(), matrix(3), example(), api.OK},
		{example(), with(matrix(3), 1, 0, 1000), []aerial.Aerial{{At: -1, Side: -2i}, {At: 0, Carrier: 10, Side: -2i}, {At: 1, Side: 2i}}, api.OK},
		{example(), with(matrix(3), 2, 1, -500+1000i), []aerial.Aerial{{At: -1, Side: -2i}, {At: 0, Carrier: 10}, {At: 1, Carrier: -5 + 10i, Side: 2i}}, api.OK},
		{example(), with(with(matrix(3), 1, 1, 1000), 0, 1, 1000), []aerial.Aerial{{At: -1, Carrier: 10, Side: -2i}, {At: 0, Carrier: 20}, {At: 1, Side: 2i}}, api.OK}, // by the feeds as they were
		{one(1, -1i), [][]complex128{{500}}, one(2, -1i), api.OK}, {one(1, -1i), [][]complex128{{499}}, one(1, -1i), api.OK}, {one(1, -1i), [][]complex128{{501}}, one(2, -2i), api.OK},
		{one(1, -1i), [][]complex128{{-500}}, one(1, 0), api.OK}, {one(1, -1i), [][]complex128{{-501}}, one(0, 0), api.OK}, {one(3, 7), [][]complex128{{500i}}, one(3+2i, 7+4i), api.OK}, {one(3, 7), [][]complex128{{-500i}}, one(3-1i, 7-3i), api.OK},
		{one(-100, 100), [][]complex128{{-2}}, one(-100, 100), api.OK}, // 0.2
		{one(100, 0), [][]complex128{{5}}, nil, api.ErrLarge}, {one(0, 100), [][]complex128{{5}}, nil, api.ErrLarge}, {one(100i, 0), [][]complex128{{5}}, nil, api.ErrLarge}, {one(0, -100i), [][]complex128{{6}}, nil, api.ErrLarge}, {one(-100, 0), [][]complex128{{5}}, one(-100, 0), api.OK}, {one(0, -100i), [][]complex128{{5}}, one(0, -100i), api.OK},
		{two(100, 100), with(matrix(2), 1, 0, 1000i), []aerial.Aerial{{At: 3, Carrier: 100}, {At: -2, Carrier: 100i, Side: 100}}, api.OK},
		{two(100, 100), with(matrix(2), 0, 0, 1), two(100, 100), api.OK},
		{two(100, 100), [][]complex128{{1000 + 1000i, -1000}, {1000, 1000}}, nil, api.ErrLarge},
	} {
		out, e := aerial.Coupled(x.l, x.m)
		same(t, "Coupled", all(i, out, e), all(i, x.out, x.e))
	}
	r := numbers{15}
	for range 3000 {
		l := r.sized()
		m := matrix(len(l))
		for i := range m {
			for j := range m {
				m[i][j] = r.feed([]int{1, 30, 300, 1000}[r.below(4)])
			}
		}
		out, e := aerial.Coupled(l, m)
		want, is := coupledOf(l, m)
		if !is {
			same(t, "Coupled", all(out, e), all([]aerial.Aerial{}, api.ErrLarge))
			continue
		}
		same(t, "Coupled", all(l, m, out, e), all(l, m, want, api.OK))
	}
}

// coupledOf is an array that is coupled by a matrix, and whether its feeds are in their range.
func coupledOf(l []aerial.Aerial, m [][]complex128) ([]aerial.Aerial, bool) {
	var out []aerial.Aerial
	is := true
	feed := func(own complex128, sum api.Gauss) complex128 {
		g := plus(gaussOf(own), gauss(nearestOf(ratOf(sum.Re, 1000)), nearestOf(ratOf(sum.Im, 1000))))
		is = is && max(absolute(g.Re), absolute(g.Im)) <= 100
		return number(g)
	}
	for i, a := range l {
		var carrier, side api.Gauss
		for j, b := range l {
			carrier, side = plus(carrier, times(gaussOf(m[i][j]), gaussOf(b.Carrier))), plus(side, times(gaussOf(m[i][j]), gaussOf(b.Side)))
		}
		out = append(out, aerial.Aerial{At: a.At, Carrier: feed(a.Carrier, carrier), Side: feed(a.Side, side)})
	}
	return out, is
}

func TestErrorsOfMatrices(t *testing.T) {
	bad := complex(nan, 0)
	for i, x := range []struct {
		m [][]complex128
		e api.Errno
	}{
		{nil, api.ErrShape}, {matrix(2), api.ErrShape}, {matrix(4), api.ErrShape}, {make([][]complex128, 3), api.ErrShape},
		{[][]complex128{{0, 0, 0}, {0, 0, 0}, {0, 0}}, api.ErrShape}, {[][]complex128{{0, 0, 0, 0}, {0, 0, 0}, {0, 0, 0}}, api.ErrShape},
		{[][]complex128{{0, 0, bad}, {0, 0, 0}, {0, 0}}, api.ErrShape}, {[][]complex128{{bad, 0, 0}}, api.ErrShape}, // shapes come first
		{with(with(matrix(3), 0, 2, 1001), 1, 0, bad), api.ErrRange}, {with(with(matrix(3), 0, 2, bad), 1, 0, 1001), api.ErrForm}, // row by row
		{with(with(matrix(3), 1, 0, 1001), 1, 1, bad), api.ErrRange}, {with(with(matrix(3), 2, 2, 0.5), 2, 1, bad), api.ErrForm},
	} {
		out, e := aerial.Coupled(example(), x.m)
		same(t, "Coupled with errors of a matrix", all(i, out, e), all(i, []aerial.Aerial{}, x.e))
	}
	for i, x := range badNumbers(1000) {
		out, e := aerial.Coupled(example(), with(matrix(3), 2, 2, x.x))
		same(t, "Coupled with errors of a number", all(i, out, e), all(i, []aerial.Aerial{}, x.e))
	}
	out, e := aerial.Coupled(one(0, 0), [][]complex128{{-1000 + 1000i}})
	same(t, "Coupled by the greatest number", all(out, e), all(one(0, 0), api.OK))
}

func TestFailed(t *testing.T) {
	l := []aerial.Aerial{{At: 4, Carrier: 1, Side: 2i}, {At: -3, Carrier: 3, Side: 4}}
	out, e := aerial.Failed(l, 0)
	same(t, "Failed", all(out, e), all([]aerial.Aerial{{At: 4}, l[1]}, api.OK))
	out, e = aerial.Failed(l, 1)
	same(t, "Failed", all(out, e), all([]aerial.Aerial{l[0], {At: -3}}, api.OK))
	out, e = aerial.Failed(one(1, 2), 0)
	same(t, "Failed", all(out, e), all(one(0, 0), api.OK))
	for _, i := range []int{-1, 2, math.MinInt, math.MaxInt} {
		out, e = aerial.Failed(l, i)
		same(t, "Failed with no index", all(i, out, e), all(i, []aerial.Aerial{}, api.ErrUnknown))
	}
	out, _ = aerial.Failed(example(), 2)
	_, side, e := aerial.Fields(out, right)
	same(t, "Fields of A with a failed aerial", all(side, e), all(-750-1000i, api.OK))
}

func TestDetuned(t *testing.T) {
	l := []aerial.Aerial{{At: 4, Carrier: 1, Side: 2i}, {At: -3, Carrier: 3 + 4i, Side: -100}}
	for i, x := range []struct {
		i, turns int
		out      []aerial.Aerial
		e        api.Errno
	}{
		{0, 0, l, api.OK}, {1, 0, l, api.OK},
		{0, 1, []aerial.Aerial{{At: 4, Carrier: 1i, Side: -2}, l[1]}, api.OK}, {0, 2, []aerial.Aerial{{At: 4, Carrier: -1, Side: -2i}, l[1]}, api.OK}, {0, 3, []aerial.Aerial{{At: 4, Carrier: -1i, Side: 2}, l[1]}, api.OK},
		{1, 1, []aerial.Aerial{l[0], {At: -3, Carrier: -4 + 3i, Side: -100i}}, api.OK}, {1, 2, []aerial.Aerial{l[0], {At: -3, Carrier: -3 - 4i, Side: 100}}, api.OK}, {1, 3, []aerial.Aerial{l[0], {At: -3, Carrier: 4 - 3i, Side: 100i}}, api.OK},
		{-1, 0, nil, api.ErrUnknown}, {2, 0, nil, api.ErrUnknown}, {2, 4, nil, api.ErrUnknown}, {0, -1, nil, api.ErrRange}, {1, 4, nil, api.ErrRange}, {0, math.MinInt, nil, api.ErrRange}, {math.MaxInt, 0, nil, api.ErrUnknown},
	} {
		out, e := aerial.Detuned(l, x.i, x.turns)
		same(t, "Detuned", all(i, out, e), all(i, x.out, x.e))
	}
	out, e := aerial.Detuned(example(), 1, 1)
	same(t, "Detuned A", all(out[1], e), all(aerial.Aerial{Carrier: 10i}, api.OK))
}

func TestMirrored(t *testing.T) {
	out, e := aerial.Mirrored(example())
	same(t, "Mirrored", all(out, e), all([]aerial.Aerial{{At: 1, Side: -2i}, {At: 0, Carrier: 10}, {At: -1, Side: 2i}}, api.OK))
	out, e = aerial.Mirrored([]aerial.Aerial{{At: 4, Carrier: 1 + 2i}, {At: -2, Side: 3i}, {At: 1}})
	same(t, "Mirrored", all(out, e), all([]aerial.Aerial{{At: -4, Carrier: 1 + 2i}, {At: 2, Side: 3i}, {At: -1}}, api.OK))
}

func TestSynthesized(t *testing.T) {
	type fields = [4]complex128
	for i, x := range []struct {
		carrier, side fields
		l             []aerial.Aerial
		e             api.Errno
	}{
		{fields{4}, fields{0, 4}, []aerial.Aerial{{At: 0, Carrier: 1, Side: 1}, {At: 1, Carrier: 1, Side: -1i}, {At: 2, Carrier: 1, Side: -1}, {At: 3, Carrier: 1, Side: 1i}}, api.OK},
		{fields{0, 0, 4i}, fields{0, 0, 0, -4}, []aerial.Aerial{{At: 0, Carrier: 1i, Side: -1}, {At: 1, Carrier: -1i, Side: -1i}, {At: 2, Carrier: 1i, Side: 1}, {At: 3, Carrier: -1i, Side: 1i}}, api.OK},
		{fields{10, -2 - 2i, -2, -2 + 2i}, fields{}, []aerial.Aerial{{At: 0, Carrier: 1}, {At: 1, Carrier: 2}, {At: 2, Carrier: 3}, {At: 3, Carrier: 4}}, api.OK},
		{fields{400, 0, 0, 0}, fields{-400i}, []aerial.Aerial{{At: 0, Carrier: 100, Side: -100i}, {At: 1, Carrier: 100, Side: -100i}, {At: 2, Carrier: 100, Side: -100i}, {At: 3, Carrier: 100, Side: -100i}}, api.OK},
		{fields{1}, fields{}, nil, api.ErrForm}, {fields{2}, fields{}, nil, api.ErrForm}, {fields{}, fields{-1i}, nil, api.ErrForm}, {fields{}, fields{1, 1, 1, 2}, nil, api.ErrForm}, {fields{2, 0, 2, 1}, fields{}, nil, api.ErrForm}, {fields{3, 1, 1, -1}, fields{}, nil, api.ErrForm},
		{fields{404}, fields{}, nil, api.ErrLarge}, {fields{}, fields{404i}, nil, api.ErrLarge}, {fields{-404}, fields{}, nil, api.ErrLarge}, {fields{1000 + 1000i, 1000 + 1000i, 1000 + 1000i, 1000 + 1000i}, fields{}, nil, api.ErrLarge},
		{fields{404}, fields{1}, nil, api.ErrForm}, {fields{1}, fields{404}, nil, api.ErrForm}, // before ErrLarge
		{fields{3: 1001}, fields{complex(nan, 0)}, nil, api.ErrRange}, {fields{1: complex(nan, 0), 2: 1001}, fields{}, nil, api.ErrForm}, {fields{1: 1001, 2: complex(nan, 0)}, fields{}, nil, api.ErrRange}, // the first one, of the carrier
		{fields{1}, fields{3: 1001}, nil, api.ErrRange}, {fields{404}, fields{3: 0.5}, nil, api.ErrRange},
	} {
		l, e := aerial.Synthesized(x.carrier, x.side)
		same(t, "Synthesized", all(i, l, e), all(i, x.l, x.e))
	}
	for i, x := range badNumbers(1000) {
		for k := range 4 {
			f := fields{}
			f[k] = x.x
			l, e := aerial.Synthesized(f, fields{})
			same(t, "Synthesized with errors of the carrier", all(i, l, e), all(i, []aerial.Aerial{}, x.e))
			l, e = aerial.Synthesized(fields{}, f)
			same(t, "Synthesized with errors of the side", all(i, l, e), all(i, []aerial.Aerial{}, x.e))
		}
	}
}

// quarters is the directions of a synthesis.
var quarters = [4]aerial.Direction{straight, direction(0, 1, 1), back, direction(0, -1, 1)}

func TestPower(t *testing.T) {
	minus := math.Copysign(0, -1)
	for _, x := range []struct {
		field complex128
		power int
	}{{0, 0}, {1, 1}, {-1i, 1}, {3 - 4i, 25}, {complex(minus, minus), 0}, {40000000, 1600000000000000}, {-40000000 + 40000000i, 3200000000000000}, {39999999 - 39999997i, 3199999680000010}} {
		n, e := aerial.Power(x.field)
		same(t, "Power", all(x.field, n, e), all(x.field, x.power, api.OK))
	}
	for i, x := range badNumbers(40000000) {
		n, e := aerial.Power(x.x)
		same(t, "Power with errors", all(i, n, e), all(i, 0, x.e))
	}
}

func TestPhasing(t *testing.T) {
	for i, x := range []struct {
		l       []aerial.Aerial
		d       aerial.Direction
		phasing []int
		power   int
	}{
		{[]aerial.Aerial{{At: 0, Carrier: 1}, {At: 1, Carrier: 1i}}, straight, []int{0, 3}, 4},
		{[]aerial.Aerial{{At: 0, Carrier: 1, Side: 100}, {At: 1, Carrier: -1, Side: 100}}, straight, []int{0, 2}, 4},
		{[]aerial.Aerial{{At: 0, Carrier: 1}, {At: 1, Carrier: 1}}, direction(0, 1, 1), []int{0, 3}, 4},
		{[]aerial.Aerial{{At: 1, Carrier: 1}, {At: 0, Carrier: 1}}, direction(0, 1, 1), []int{0, 1}, 4},
		{one(7i, 0), right, []int{0}, 7 * 7 * 625 * 625}, {one(0, 5), straight, []int{0}, 0},
		{[]aerial.Aerial{{At: 0}, {At: 1, Carrier: 1i}, {At: 2, Carrier: 1}}, straight, []int{0, 0, 1}, 4},
		{[]aerial.Aerial{{At: 0, Carrier: 1}, {At: 1, Carrier: 1 + 1i}}, straight, []int{0, 0}, 5}, // 2 + i and 2 - i
		{[]aerial.Aerial{{At: 0, Carrier: 1}, {At: 1, Carrier: -1 - 1i}}, straight, []int{0, 1}, 5},
		{largest()[:6], straight, []int{0, 0, 0, 0, 0, 0}, 720000},
	} {
		l, p, e := aerial.Phasing(x.l, x.d)
		same(t, "Phasing", all(i, l, p, e), all(i, x.phasing, x.power, api.OK))
	}
	r := numbers{17}
	for range 60 {
		l, d := r.array(6, []int{1, 3, 100}[r.below(3)]), r.direction()
		want, most := phasingOf(l, d)
		phasing, p, e := aerial.Phasing(l, d)
		same(t, "Phasing", all(l, d, phasing, p, e), all(l, d, want, most, api.OK))
	}
}

// phasingOf is the first one of all phasings with the greatest power, and this power.
func phasingOf(l []aerial.Aerial, d aerial.Direction) ([]int, int) {
	var best []int
	most := -1
	var try func(phasing []int, field api.Gauss)
	try = func(phasing []int, field api.Gauss) {
		i := len(phasing)
		if i == len(l) {
			if p := squareOf(field); p > most {
				best, most = slices.Clone(phasing), p
			}
			return
		}
		x := times(gaussOf(l[i].Carrier), phaseOf(d, l[i].At))
		for k := range 4 {
			try(append(phasing, k), plus(field, x))
			x = times(x, gauss(0, 1))
		}
	}
	try(nil, gauss(0, 0))
	return best, most
}

func TestErrorsOfFeeds(t *testing.T) {
	none := []aerial.Aerial{}
	for i, x := range badArrays() {
		l, e := aerial.Coupled(x.l, nil)
		same(t, "Coupled with errors of an array", all(i, l, e), all(i, none, x.e))
		l, e = aerial.Failed(x.l, -1)
		same(t, "Failed with errors of an array", all(i, l, e), all(i, none, x.e))
		l, e = aerial.Detuned(x.l, -1, 4)
		same(t, "Detuned with errors of an array", all(i, l, e), all(i, none, x.e))
		l, e = aerial.Mirrored(x.l)
		same(t, "Mirrored with errors of an array", all(i, l, e), all(i, none, x.e))
		phasing, p, e := aerial.Phasing(x.l, aerial.Direction{})
		same(t, "Phasing with errors of an array", all(i, phasing, p, e), all(i, []int{}, 0, x.e))
	}
	for i, x := range badDirections() {
		phasing, p, e := aerial.Phasing(largest(), x.d)
		same(t, "Phasing with errors of a direction", all(i, phasing, p, e), all(i, []int{}, 0, x.e))
	}
	for n := 6; n <= 8; n++ {
		_, p, e := aerial.Phasing(largest()[:n], straight)
		want, f := 720000, api.OK
		if n > 6 {
			want, f = 0, api.ErrLimit
		}
		same(t, "Phasing of many aerials", all(n, p, e), all(n, want, f))
	}
}
