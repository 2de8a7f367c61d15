package tone_test

import (
	"testing"

	"glideslope/api"
	"glideslope/tone"
)

// The tests of this file are those of P2.1.

func TestCheckSignal(t *testing.T) {
	for i, s := range []tone.Signal{
		example(), plain(1, 0, 0), plain(-10000, 10000, -10000),
		{Carrier: gauss(0, -1)}, {Carrier: gauss(10000, 10000), Low: gauss(-10000, 10000), High: gauss(10000, -10000)},
	} {
		same(t, "CheckSignal", all(i, tone.CheckSignal(s)), all(i, api.OK))
	}
	for i, x := range badSignals() {
		same(t, "CheckSignal with errors", all(i, tone.CheckSignal(x.of(example()))), all(i, x.e))
	}
}

func TestDepths(t *testing.T) {
	for i, x := range []struct {
		s                      tone.Signal
		low, high, needle, sum api.Ratio
	}{
		{example(), ratio(3, 10), ratio(1, 10), ratio(1, 5), ratio(2, 5)},
		{plain(7, 0, 0), ratio(0, 1), ratio(0, 1), ratio(0, 1), ratio(0, 1)},
		{plain(-10, 3, 1), ratio(-3, 10), ratio(-1, 10), ratio(-1, 5), ratio(-2, 5)},
		{plain(1, 10000, -10000), ratio(10000, 1), ratio(-10000, 1), ratio(20000, 1), ratio(0, 1)},
		{plain(10000, 1, 0), ratio(1, 10000), ratio(0, 1), ratio(1, 10000), ratio(1, 10000)},
		{tone.Signal{Carrier: gauss(3, 4), Low: gauss(1, 2), High: gauss(-4, 3)}, ratio(11, 25), ratio(0, 1), ratio(11, 25), ratio(11, 25)},
		{tone.Signal{Carrier: gauss(0, -2), Low: gauss(9, 5), High: gauss(9, -7)}, ratio(-5, 2), ratio(7, 2), ratio(-6, 1), ratio(1, 1)},
		{tone.Signal{Carrier: gauss(10000, 10000), Low: gauss(10000, 10000), High: gauss(-10000, -10000)}, ratio(1, 1), ratio(-1, 1), ratio(2, 1), ratio(0, 1)},
		{tone.Signal{Carrier: gauss(10000, 9999), Low: gauss(9999, 10000), High: gauss(-10000, -9999)}, ratio(199980000, 199980001), ratio(-1, 1), ratio(399960001, 199980001), ratio(-1, 199980001)},
	} {
		low, high, e := tone.Depths(x.s)
		same(t, "Depths", all(i, low, high, e), all(i, x.low, x.high, api.OK))
		needle, e := tone.Needle(x.s)
		same(t, "Needle", all(i, needle, e), all(i, x.needle, api.OK))
		sum, e := tone.Sum(x.s)
		same(t, "Sum", all(i, sum, e), all(i, x.sum, api.OK))
	}
	r := numbers{3}
	for range 2000 {
		s := r.sized()
		low, high, _ := tone.Depths(s)
		needle, _ := tone.Needle(s)
		sum, _ := tone.Sum(s)
		same(t, "Depths, Needle and Sum", all(s, low, high, needle, sum), all(s, lowest(depthOf(s.Low, s.Carrier)), lowest(depthOf(s.High, s.Carrier)), lowest(needleOf(s)), lowest(sumOf(s))))
	}
}

func TestErrorsOfOneSignal(t *testing.T) {
	for i, x := range badSignals() {
		s := x.of(example())
		low, high, e := tone.Depths(s)
		same(t, "Depths with errors", all(i, low, high, e), all(i, api.Ratio{}, api.Ratio{}, x.e))
		needle, e := tone.Needle(s)
		same(t, "Needle with errors", all(i, needle, e), all(i, api.Ratio{}, x.e))
		sum, e := tone.Sum(s)
		same(t, "Sum with errors", all(i, sum, e), all(i, api.Ratio{}, x.e))
		out, e := tone.Added(s, example())
		same(t, "Added with errors of the first", all(i, out, e), all(i, tone.Signal{}, x.e))
		out, e = tone.Added(example(), s)
		same(t, "Added with errors of the second", all(i, out, e), all(i, tone.Signal{}, x.e))
		out, e = tone.Turned(s, 1)
		same(t, "Turned with errors", all(i, out, e), all(i, tone.Signal{}, x.e))
		out, e = tone.Scaled(s, gauss(1, 0), gauss(1, 0))
		same(t, "Scaled with errors", all(i, out, e), all(i, tone.Signal{}, x.e))
	}
}

func TestAdded(t *testing.T) {
	large := tone.Signal{Carrier: gauss(5000, -5000), Low: gauss(5000, -5000), High: gauss(-5000, 5000)}
	twice := tone.Signal{Carrier: gauss(10000, -10000), Low: gauss(10000, -10000), High: gauss(-10000, 10000)}
	for i, x := range []struct {
		a, b, out tone.Signal
		e         api.Errno
	}{
		{example(), plain(5, -1, 2), plain(15, 2, 3), api.OK},
		{tone.Signal{Carrier: gauss(1, 2), Low: gauss(3, 4), High: gauss(5, 6)}, tone.Signal{Carrier: gauss(10, 20), Low: gauss(30, 40), High: gauss(50, 60)}, tone.Signal{Carrier: gauss(11, 22), Low: gauss(33, 44), High: gauss(55, 66)}, api.OK},
		{large, large, twice, api.OK},
		{twice, plain(1, 0, 0), tone.Signal{}, api.ErrLarge},
		{twice, tone.Signal{Carrier: gauss(0, -1)}, tone.Signal{}, api.ErrLarge},
		{twice, plain(-1, 1, 0), tone.Signal{}, api.ErrLarge},
		{twice, tone.Signal{Carrier: gauss(-1, 1), Low: gauss(0, -1)}, tone.Signal{}, api.ErrLarge},
		{twice, plain(-1, 0, -1), tone.Signal{}, api.ErrLarge},
		{twice, tone.Signal{Carrier: gauss(-1, 1), High: gauss(0, 1)}, tone.Signal{}, api.ErrLarge},
		{twice, tone.Signal{Carrier: gauss(-1, 1)}, tone.Signal{Carrier: gauss(9999, -9999), Low: twice.Low, High: twice.High}, api.OK},
		{example(), plain(-10, 0, 0), tone.Signal{}, api.ErrZero},
		{plain(10, 9999, 0), plain(-10, 2, 0), tone.Signal{}, api.ErrLarge}, // before ErrZero
		{none, far, tone.Signal{}, api.ErrZero}, {far, none, tone.Signal{}, api.ErrRange},
	} {
		out, e := tone.Added(x.a, x.b)
		same(t, "Added", all(i, out, e), all(i, x.out, x.e))
	}
}

func TestTurned(t *testing.T) {
	s := tone.Signal{Carrier: gauss(1, 2), Low: gauss(3, -4), High: gauss(-10000, 10000)}
	for k, want := range []tone.Signal{
		s,
		{Carrier: gauss(-2, 1), Low: gauss(4, 3), High: gauss(-10000, -10000)},
		{Carrier: gauss(-1, -2), Low: gauss(-3, 4), High: gauss(10000, -10000)},
		{Carrier: gauss(2, -1), Low: gauss(-4, -3), High: gauss(10000, 10000)},
	} {
		out, e := tone.Turned(s, k)
		same(t, "Turned", all(k, out, e), all(k, want, api.OK))
	}
	out, e := tone.Turned(example(), 1)
	same(t, "Turned S", all(out, e), all(tone.Signal{Carrier: gauss(0, 10), Low: gauss(0, 3), High: gauss(0, 1)}, api.OK))
	needle, e := tone.Needle(out)
	same(t, "Needle of S turned", all(needle, e), all(ratio(1, 5), api.OK))
	for _, k := range []int{-1, 4, -4, 1 << 62} {
		out, e := tone.Turned(s, k)
		same(t, "Turned by another number", all(k, out, e), all(k, tone.Signal{}, api.ErrRange))
	}
	out, e = tone.Turned(none, 4)
	same(t, "Turned with both errors", all(out, e), all(tone.Signal{}, api.ErrZero))
}

func TestScaled(t *testing.T) {
	s := tone.Signal{Carrier: gauss(1, 2), Low: gauss(3, -4), High: gauss(0, 5)}
	for i, x := range []struct {
		s         tone.Signal
		one, both api.Gauss
		out       tone.Signal
		e         api.Errno
	}{
		{example(), gauss(1, 0), gauss(0, 1), tone.Signal{Carrier: gauss(10, 0), Low: gauss(0, 3), High: gauss(0, 1)}, api.OK},
		{s, gauss(3, 1), gauss(2, -1), tone.Signal{Carrier: gauss(1, 7), Low: gauss(2, -11), High: gauss(5, 10)}, api.OK},
		{s, gauss(0, -1000), gauss(0, 0), tone.Signal{Carrier: gauss(2000, -1000)}, api.OK},
		{plain(10, 10, -10), gauss(1000, -1000), gauss(-1000, 1000), tone.Signal{Carrier: gauss(10000, -10000), Low: gauss(-10000, 10000), High: gauss(10000, -10000)}, api.OK},
		{plain(11, 0, 0), gauss(1000, 0), gauss(1, 0), tone.Signal{}, api.ErrLarge},
		{plain(11, 0, 0), gauss(0, -1000), gauss(1, 0), tone.Signal{}, api.ErrLarge},
		{plain(1, 11, 0), gauss(1, 0), gauss(1000, 0), tone.Signal{}, api.ErrLarge},
		{plain(1, 0, -11), gauss(1, 0), gauss(0, 1000), tone.Signal{}, api.ErrLarge},
		{plain(10000, 10000, 10000), gauss(1000, 1000), gauss(-1000, 1000), tone.Signal{}, api.ErrLarge},
		{s, gauss(1001, 0), gauss(1, 0), tone.Signal{}, api.ErrRange}, {s, gauss(-1001, 0), gauss(1, 0), tone.Signal{}, api.ErrRange},
		{s, gauss(0, 1001), gauss(1, 0), tone.Signal{}, api.ErrRange}, {s, gauss(0, -1001), gauss(1, 0), tone.Signal{}, api.ErrRange},
		{s, gauss(0, 0), gauss(1, 0), tone.Signal{}, api.ErrZero}, {s, gauss(0, 0), gauss(1001, 0), tone.Signal{}, api.ErrZero},
		{s, gauss(1, 0), gauss(1001, 0), tone.Signal{}, api.ErrRange}, {s, gauss(1, 0), gauss(-1001, 0), tone.Signal{}, api.ErrRange},
		{s, gauss(1, 0), gauss(0, 1001), tone.Signal{}, api.ErrRange}, {s, gauss(1, 0), gauss(0, -1001), tone.Signal{}, api.ErrRange},
		{plain(11, 0, 0), gauss(1000, 0), gauss(0, 1001), tone.Signal{}, api.ErrRange}, // before ErrLarge
		{none, gauss(1001, 0), gauss(1, 0), tone.Signal{}, api.ErrZero}, {far, gauss(0, 0), gauss(1, 0), tone.Signal{}, api.ErrRange},
	} {
		out, e := tone.Scaled(x.s, x.one, x.both)
		same(t, "Scaled", all(i, out, e), all(i, x.out, x.e))
	}
	side, _ := tone.Scaled(example(), gauss(1, 0), gauss(0, 1))
	needle, e := tone.Needle(side)
	same(t, "Needle of S with turned sidebands", all(needle, e), all(ratio(0, 1), api.OK))
}
