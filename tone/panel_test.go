package tone_test

import (
	"math"
	"slices"
	"testing"

	"glideslope/api"
	"glideslope/tone"
)

// The tests of this file are those of P2.3.

type panel = [4]complex64

func TestSampled(t *testing.T) {
	for i, x := range []struct {
		s tone.Signal
		p panel
	}{
		{example(), panel{14, 12, 8, 6}},
		{tone.Signal{Carrier: gauss(1, -2), Low: gauss(10, 30), High: gauss(100, -500)}, panel{111 - 472i, -89 + 528i, 91 - 532i, -109 + 468i}},
		{plain(1, 0, 0), panel{1, 1, 1, 1}}, {plain(-5, 5, 0), panel{0, 0, -10, -10}},
		{tone.Signal{Carrier: gauss(10000, -10000), Low: gauss(10000, -10000), High: gauss(-10000, 10000)}, panel{10000 - 10000i, 30000 - 30000i, -10000 + 10000i, 10000 - 10000i}},
	} {
		p, e := tone.Sampled(x.s)
		same(t, "Sampled", all(i, p, e), all(i, x.p, api.OK))
	}
	for i, x := range badSignals() {
		p, e := tone.Sampled(x.of(example()))
		same(t, "Sampled with errors", all(i, p, e), all(i, panel{}, x.e))
	}
}

// with returns a panel with one sample changed.
func with(p panel, i int, x complex64) panel {
	p[i] = x
	return p
}

func TestReceived(t *testing.T) {
	for i, x := range []struct {
		p    panel
		s    tone.Signal
		left api.Gauss
	}{
		{panel{14, 12, 8, 6}, example(), gauss(0, 0)},
		{panel{14, 12, 8, 10}, plain(11, 2, 0), gauss(1, 0)},
		{panel{4i, 0, 0, 0}, tone.Signal{Carrier: gauss(0, 1), Low: gauss(0, 1), High: gauss(0, 1)}, gauss(0, 1)},
		{panel{0, 4, 0, 0}, plain(1, 1, -1), gauss(-1, 0)}, {panel{0, 0, 4, 0}, plain(1, -1, 1), gauss(-1, 0)}, {panel{0, 0, 0, 4}, plain(1, -1, -1), gauss(1, 0)},
		{panel{40000, 0, 0, 0}, plain(10000, 10000, 10000), gauss(10000, 0)},
		{panel{20004, -19996, -19996, 20004}, plain(4, 0, 0), gauss(20000, 0)},
		{panel{20000 + 4i, -20000 + 4i, -20000 + 4i, 20000 + 4i}, tone.Signal{Carrier: gauss(0, 4)}, gauss(20000, 0)},
		{panel{40000 - 40000i, -40000 + 40000i, -39996 + 40000i, 40000 - 40000i}, plain(1, -1, 1), gauss(39999, -40000)},
		{panel{complex(math.Float32frombits(1<<31), 0), 4, 4, 0}, plain(2, 0, 0), gauss(-2, 0)},
	} {
		s, left, e := tone.Received(x.p)
		same(t, "Received", all(i, s, left, e), all(i, x.s, x.left, api.OK))
	}
}

// badPanels returns panels with their errors.
func badPanels() []struct {
	p panel
	e api.Errno
} {
	s := panel{14, 12, 8, 6}
	nan, inf := float32(math.NaN()), float32(math.Inf(1))
	return []struct {
		p panel
		e api.Errno
	}{
		{with(s, 0, complex(nan, 0)), api.ErrForm}, {with(s, 3, complex(0, nan)), api.ErrForm}, {with(s, 1, complex(inf, 0)), api.ErrForm}, {with(s, 2, complex(0, -inf)), api.ErrForm},
		{with(s, 2, 0.5), api.ErrForm}, {with(s, 2, 0.25i), api.ErrForm}, {with(s, 2, complex(math.SmallestNonzeroFloat32, 0)), api.ErrForm},
		{with(s, 2, 40001), api.ErrRange}, {with(s, 2, -40001), api.ErrRange}, {with(s, 2, 40001i), api.ErrRange}, {with(s, 2, -40001i), api.ErrRange}, {with(s, 2, 3e38), api.ErrRange}, {with(s, 2, complex(0, -math.MaxFloat32)), api.ErrRange},
		{with(s, 2, 40000.5), api.ErrForm}, {with(s, 1, complex(40001, nan)), api.ErrRange}, {with(s, 1, complex(nan, 40001)), api.ErrForm},
		{panel{14, 40001, complex(nan, 0), 6}, api.ErrRange}, {panel{14, 0.5, 40001, 6}, api.ErrForm}, {panel{13, 12, 8, 40001}, api.ErrRange}, {panel{13, 12, 8, 0.5i}, api.ErrForm},
		{panel{14, 12, 8, 7}, api.ErrShape}, {panel{14, 12, 8, 6 + 1i}, api.ErrShape}, {panel{14 - 2i, 12, 8, 6}, api.ErrShape}, {panel{15, 12, 8, 5}, api.ErrShape}, {panel{15, 11, 8, 6}, api.ErrShape}, {panel{15, 12, 7, 6}, api.ErrShape},
		{panel{40000, 40000, 40000, 39999}, api.ErrShape},
		{panel{40000, 40000i, -40000i, 0}, api.ErrLarge}, {panel{10001, 10001, 10001, 10001}, api.ErrLarge}, {panel{-10001i, -10001i, -10001i, -10001i}, api.ErrLarge},
		{panel{10002, 10002, -10000, -10000}, api.ErrLarge}, {panel{10002i, -10000i, 10002i, -10000i}, api.ErrLarge}, {panel{-10002i, -10002i, 10000i, 10000i}, api.ErrLarge}, {panel{10001, 10001, -10001, -10001}, api.ErrLarge},
		{panel{}, api.ErrZero}, {panel{3, 1, -1, -3}, api.ErrZero}, {panel{40000, -40000, -40000, 40000}, api.ErrZero}, {panel{10000i, 10000i, -10000i, -10000i}, api.ErrZero},
	}
}

func TestReceivedErrors(t *testing.T) {
	for i, x := range badPanels() {
		s, left, e := tone.Received(x.p)
		same(t, "Received with errors", all(i, s, left, e), all(i, tone.Signal{}, api.Gauss{}, x.e))
		s, left, e = tone.Averaged([]panel{x.p})
		same(t, "Averaged with errors", all(i, s, left, e), all(i, tone.Signal{}, api.Gauss{}, x.e))
	}
}

func TestAveraged(t *testing.T) {
	a, b := panel{14, 12, 8, 6}, panel{14, 12, 8, 10}
	for i, x := range []struct {
		l    []panel
		s    tone.Signal
		left api.Gauss
		e    api.Errno
	}{
		{[]panel{a}, example(), gauss(0, 0), api.OK},
		{[]panel{b}, plain(11, 2, 0), gauss(1, 0), api.OK},
		{[]panel{a, a, a}, example(), gauss(0, 0), api.OK},
		{[]panel{a, b}, tone.Signal{}, gauss(0, 0), api.ErrShape}, // 14, 12, 8, 8
		{[]panel{{13, 11, 7, 5}, {15, 13, 9, 7}}, example(), gauss(0, 0), api.OK},
		{[]panel{{-14, -12, -8, -7}, {-14, -12, -8, -5}}, plain(-10, -3, -1), gauss(0, 0), api.OK},
		{[]panel{{14, 12, 8, 7}, a}, tone.Signal{}, gauss(0, 0), api.ErrShape},
		{[]panel{{14, 12, 8, 6 + 1i}, a}, tone.Signal{}, gauss(0, 0), api.ErrShape},
		{[]panel{{14 - 2i, 12, 8, 6}, a, a}, tone.Signal{}, gauss(0, 0), api.ErrShape},
		{[]panel{{14 + 3i, 12, 8, 10 + 9i}, a, a}, tone.Signal{}, gauss(0, 0), api.ErrShape}, // 22/3
		{[]panel{{14 + 3i, 12, 8, 18 + 9i}, a, a}, tone.Signal{}, gauss(0, 0), api.ErrShape}, // 14+i, 12, 8, 10+3i
		{[]panel{{14 + 6i, 12, 8, 18 + 6i}, a, a}, tone.Signal{Carrier: gauss(11, 1), Low: gauss(2, 0)}, gauss(1, 1), api.OK},
		{[]panel{{3, 1, -1, -3}, {3, 1, -1, -3}}, tone.Signal{}, gauss(0, 0), api.ErrZero},
		{[]panel{{40000, 40000, 40000, 40000}, {-40000, -40000, -40000, -40000}, {3, 3, 3, 3}}, plain(1, 0, 0), gauss(0, 0), api.OK},
		{[]panel{{40000, 40000, 40000, 40000}, {-40000, -40000, -40000, -40000}}, tone.Signal{}, gauss(0, 0), api.ErrZero},
		{[]panel{{40000, 40000, 40000, 40000}, {-19996, -19996, -19996, -19996}}, tone.Signal{}, gauss(0, 0), api.ErrLarge},
		{nil, tone.Signal{}, gauss(0, 0), api.ErrEmpty}, {[]panel{}, tone.Signal{}, gauss(0, 0), api.ErrEmpty},
		{slices.Repeat([]panel{a}, 64), example(), gauss(0, 0), api.OK},
		{slices.Repeat([]panel{a}, 65), tone.Signal{}, gauss(0, 0), api.ErrMany},
		{slices.Repeat([]panel{{0.5}}, 65), tone.Signal{}, gauss(0, 0), api.ErrMany},
		{[]panel{a, {0.5}, {40001}}, tone.Signal{}, gauss(0, 0), api.ErrForm},
		{[]panel{{14, 12, 8, 7}, {40001}, {0.5}}, tone.Signal{}, gauss(0, 0), api.ErrRange},
	} {
		s, left, e := tone.Averaged(x.l)
		same(t, "Averaged", all(i, s, left, e), all(i, x.s, x.left, x.e))
	}
}

func TestLost(t *testing.T) {
	s := example()
	for i, x := range []struct {
		r         tone.Receiver
		s         tone.Signal
		loss, out api.Interval
	}{
		{receiver(), s, interval(0, 500), interval(10, 20)},
		{receiver(), s, interval(0, 0), interval(20, 20)},
		{receiver(), s, interval(0, 1000), interval(0, 20)},
		{receiver(), s, interval(1000, 1000), interval(0, 0)},
		{receiver(), plain(10, 1, 3), interval(0, 500), interval(-20, -10)},
		{receiver(), plain(10, 1, 1), interval(0, 1000), interval(0, 0)},
		{receiver(), plain(7, 7, 0), interval(500, 800), interval(20, 30)}, // its flag is weak
		{receiver(), plain(10, 0, 9), interval(600, 700), interval(-30, -27)},
		{receiver(), s, interval(974, 975), interval(1, 1)}, // 0.52, 0.5
		{receiver(), s, interval(976, 976), interval(0, 0)}, // 0.48
		{receiver(), plain(10, 1, 3), interval(975, 975), interval(0, 0)},
		{receiver(), plain(10, 1, 3), interval(974, 976), interval(-1, 0)},
		{open(1000, 1000), plain(1, 10000, -10000), interval(999, 1000), interval(0, 1000)},
		{open(1000, 1000), tone.Signal{Carrier: gauss(10000, 10000), Low: gauss(10000, 10000), High: gauss(-10000, -9999)}, interval(501, 502), interval(996, 998)},
	} {
		out, e := tone.Lost(x.r, x.s, x.loss)
		same(t, "Lost", all(i, out, e), all(i, x.out, api.OK))
	}
	r := numbers{13}
	for range 2000 {
		most := []int{3, 20, 300, 10000}[r.below(4)]
		x, s, low := r.receiver(most), r.signal(most), r.below(1001)
		loss := interval(low, min(1000, low+r.below(9)))
		want := interval(math.MaxInt, math.MinInt)
		for l := loss.Low; l <= loss.High; l++ {
			needle := times(needleOf(s), 1000-l)
			n := shownOf(x, needle.Quo(needle, ratOf(1000)))
			want = interval(min(want.Low, n), max(want.High, n))
		}
		out, e := tone.Lost(x, s, loss)
		same(t, "Lost", all(x, s, loss, out, e), all(x, s, loss, want, api.OK))
	}
}

func TestNoisy(t *testing.T) {
	for i, x := range []struct {
		r     tone.Receiver
		s     tone.Signal
		noise int
		out   api.Interval
	}{
		{receiver(), example(), 0, interval(20, 20)},
		{receiver(), example(), 1, interval(0, 30)},
		{receiver(), plain(7, 1, 1), 0, interval(0, 0)},
		{receiver(), plain(-10, 3, 1), 1, interval(-30, 0)},
		{open(10, 1000), tone.Signal{Carrier: gauss(3, -4), Low: gauss(1, 0)}, 2, interval(-10, 12)},  // 3 and 28 by 25
		{open(10, 1000), tone.Signal{Carrier: gauss(-4, 3), High: gauss(1, 0)}, 2, interval(-10, 13)}, // 4 and 28 by 25
		{open(1, 1000), tone.Signal{Carrier: gauss(0, -1)}, 1000, interval(-1000, 1000)},
		{open(1, 1000), tone.Signal{Carrier: gauss(0, -4)}, 999, interval(-499, 500)}, // 499.5
		{open(1000, 1000), tone.Signal{Carrier: gauss(10000, 10000), Low: gauss(10000, 10000), High: gauss(10000, 10000)}, 1000, interval(-200, 200)},
		{open(1000, 1000), tone.Signal{Carrier: gauss(10000, 10000), Low: gauss(-10000, -10000), High: gauss(10000, 10000)}, 1000, interval(-1000, -1000)},
	} {
		out, e := tone.Noisy(x.r, x.s, x.noise)
		same(t, "Noisy", all(i, out, e), all(i, x.out, api.OK))
	}
	r := numbers{17}
	for range 2000 {
		most := []int{3, 20, 300, 10000}[r.below(4)]
		x, s, noise := r.receiver(most), r.signal(most), r.below([]int{3, 1001}[r.below(2)])
		c := s.Carrier
		by := times(ratOf(2*noise), int(math.Abs(float64(c.Re))+math.Abs(float64(c.Im))))
		by.Quo(by, ratOf(squareOf(c)))
		low, high := needleOf(s), needleOf(s)
		low.Sub(low, by)
		high.Add(high, by)
		out, e := tone.Noisy(x, s, noise)
		same(t, "Noisy", all(x, s, noise, out, e), all(x, s, noise, interval(shownOf(x, low), shownOf(x, high)), api.OK))
	}
}

func TestErrorsOfIntervals(t *testing.T) {
	for i, x := range badReceivers() {
		out, e := tone.Lost(x.of(receiver()), example(), interval(0, 1))
		same(t, "Lost with errors of the receiver", all(i, out, e), all(i, api.Interval{}, x.e))
		out, e = tone.Noisy(x.of(receiver()), example(), 1)
		same(t, "Noisy with errors of the receiver", all(i, out, e), all(i, api.Interval{}, x.e))
	}
	for i, x := range badSignals() {
		out, e := tone.Lost(receiver(), x.of(example()), interval(0, 1))
		same(t, "Lost with errors of the signal", all(i, out, e), all(i, api.Interval{}, x.e))
		out, e = tone.Noisy(receiver(), x.of(example()), 1)
		same(t, "Noisy with errors of the signal", all(i, out, e), all(i, api.Interval{}, x.e))
	}
	for i, x := range []struct {
		r    tone.Receiver
		s    tone.Signal
		loss api.Interval
		e    api.Errno
	}{
		{receiver(), example(), interval(-1, 5), api.ErrRange}, {receiver(), example(), interval(1001, 5), api.ErrRange}, {receiver(), example(), interval(5, 1001), api.ErrRange}, {receiver(), example(), interval(5, -1), api.ErrRange},
		{receiver(), example(), interval(5, 4), api.ErrOrder}, {receiver(), example(), interval(math.MinInt, math.MaxInt), api.ErrRange},
		{receiver(), none, interval(-1, 5), api.ErrZero}, {receiver(), none, interval(5, 4), api.ErrZero}, {upside, far, interval(-1, 5), api.ErrOrder},
	} {
		out, e := tone.Lost(x.r, x.s, x.loss)
		same(t, "Lost with errors", all(i, out, e), all(i, api.Interval{}, x.e))
	}
	for i, x := range []struct {
		r     tone.Receiver
		s     tone.Signal
		noise int
		e     api.Errno
	}{{receiver(), example(), -1, api.ErrRange}, {receiver(), example(), 1001, api.ErrRange}, {receiver(), none, -1, api.ErrZero}, {upside, far, -1, api.ErrOrder}} {
		out, e := tone.Noisy(x.r, x.s, x.noise)
		same(t, "Noisy with errors", all(i, out, e), all(i, api.Interval{}, x.e))
	}
}
