package tone_test

import (
	"math"
	"slices"
	"testing"

	"glideslope/api"
	"glideslope/tone"
)

// The tests of this file are those of P2.2.

func TestCheckReceiver(t *testing.T) {
	for i, r := range []tone.Receiver{
		receiver(), {Scale: 1, Full: 1}, {Scale: 1000, Full: 1000, Least: 200000000, Sum: interval(-10000, 10000)},
		{Scale: 1, Full: 1, Sum: interval(10000, 10000)}, {Scale: 1, Full: 1, Sum: interval(-10000, -10000)},
	} {
		same(t, "CheckReceiver", all(i, tone.CheckReceiver(r)), all(i, api.OK))
	}
	for i, x := range badReceivers() {
		same(t, "CheckReceiver with errors", all(i, tone.CheckReceiver(x.of(receiver()))), all(i, x.e))
	}
}

func TestTold(t *testing.T) {
	for i, x := range []struct {
		r      tone.Receiver
		s      tone.Signal
		needle int
		flag   string
	}{
		{receiver(), example(), 20, ""},
		{receiver(), plain(10, 1, 3), -20, ""},
		{receiver(), plain(10, 5, 1), 30, ""},
		{receiver(), plain(10, 1, 5), -30, ""},
		{receiver(), plain(10, 6, 1), 0, "depth"},
		{receiver(), plain(7, 0, 0), 0, "weak"},
		{receiver(), plain(7, 7, 7), 0, "weak"},
		{receiver(), tone.Signal{Carrier: gauss(1, 7), Low: gauss(1, 2)}, 30, ""}, // the square is 50, the sum 15/50
		{receiver(), plain(10, 1, 1), 0, ""},                                      // 200 thousandths
		{receiver(), plain(10, 3, 3), 0, ""},                                      // 600
		{receiver(), plain(1000, 200, -1), 0, "depth"},                            // 199
		{receiver(), plain(10000, 1999, 0), 0, "depth"},                           // 199.9
		{receiver(), plain(10000, 6001, 0), 0, "depth"},                           // 600.1
		{open(1, 9), plain(2, 1, 0), 1, ""},                                       // 1/2
		{open(1, 9), plain(2, -1, 0), 0, ""},                                      // -1/2
		{open(1, 9), plain(2, -3, 0), -1, ""},                                     // -3/2
		{open(1, 9), plain(2, 0, -3), 2, ""},                                      // 3/2
		{open(1, 9), plain(100, 49, 0), 0, ""}, {open(1, 9), plain(100, 51, 0), 1, ""},
		{open(1, 9), plain(100, -50, 0), 0, ""}, {open(1, 9), plain(100, -51, 0), -1, ""},
		{open(3, 9), plain(1, 3, 0), 9, ""}, {open(3, 9), plain(1, 3, -1), 9, ""}, {open(3, 9), plain(1, -3, 0), -9, ""}, {open(3, 9), plain(1, -3, 1), -9, ""},
		{open(1000, 1000), plain(1, 10000, -10000), 1000, ""}, {open(1000, 1000), plain(1, -10000, 10000), -1000, ""},
		{open(1000, 1000), plain(1, 10000, -9999), 1000, ""}, {open(1, 1), plain(1, 10000, 1), 0, "depth"}, {open(1, 1), plain(1, -10000, -1), 0, "depth"},
		{tone.Receiver{Scale: 1, Full: 1, Least: 200000000}, tone.Signal{Carrier: gauss(-10000, 10000)}, 0, ""},
		{tone.Receiver{Scale: 1, Full: 1, Least: 200000000}, tone.Signal{Carrier: gauss(-10000, 9999)}, 0, "weak"},
	} {
		needle, flag, e := tone.Told(x.r, x.s)
		same(t, "Told", all(i, needle, flag, e), all(i, x.needle, x.flag, api.OK))
	}
	r := numbers{5}
	for range 5000 {
		most := []int{3, 20, 300, 10000}[r.below(4)]
		x, s := r.receiver(most), r.signal(most)
		needle, flag, e := tone.Told(x, s)
		same(t, "Told", all(x, s, needle, flag, e), all(x, s, toldOf(x, s), flagOf(x, s), api.OK))
	}
}

func TestToldErrors(t *testing.T) {
	for i, x := range badReceivers() {
		needle, flag, e := tone.Told(x.of(receiver()), example())
		same(t, "Told with errors of the receiver", all(i, needle, flag, e), all(i, 0, "", x.e))
	}
	for i, x := range badSignals() {
		needle, flag, e := tone.Told(receiver(), x.of(example()))
		same(t, "Told with errors of the signal", all(i, needle, flag, e), all(i, 0, "", x.e))
	}
	_, _, e := tone.Told(upside, far)
	same(t, "Told with both errors", all(e), all(api.ErrOrder))
}

func TestFollowed(t *testing.T) {
	s, weak, left := example(), plain(7, 1, 1), plain(10, 1, 3)
	for i, x := range []struct {
		lag, start int
		l          []tone.Signal
		out        []int
	}{
		{4, 0, []tone.Signal{s, s, s}, []int{5, 8, 11}},
		{1, -30, []tone.Signal{s, weak, left}, []int{20, 20, -20}},
		{4, 30, []tone.Signal{s, s, s}, []int{27, 25, 23}}, // -10/4, -7/4, -5/4
		{16, -19, []tone.Signal{left, left}, []int{-20, -20}},
		{16, -21, []tone.Signal{left, left}, []int{-21, -21}},
		{3, 7, []tone.Signal{weak, weak}, []int{7, 7}},
		{2, 7, []tone.Signal{weak, s, weak, left}, []int{7, 13, 13, -4}},
	} {
		out, e := tone.Followed(receiver(), x.lag, x.start, x.l)
		same(t, "Followed", all(i, out, e), all(i, x.out, api.OK))
	}
	r := numbers{7}
	for range 300 {
		x, lag := r.receiver(20), 1+r.below(16)
		n := r.within(x.Full)
		var l []tone.Signal
		for range 1 + r.below(30) {
			l = append(l, r.signal(20))
		}
		got, e := tone.Followed(x, lag, n, l)
		var want []int
		for _, s := range l {
			if flagOf(x, s) == "" {
				n += int(math.Floor(float64(toldOf(x, s)-n) / float64(lag)))
			}
			want = append(want, n)
		}
		same(t, "Followed", all(got, e), all(want, api.OK))
	}
}

func TestFollowedErrors(t *testing.T) {
	one := []tone.Signal{example()}
	for i, x := range []struct {
		r          tone.Receiver
		lag, start int
		l          []tone.Signal
		e          api.Errno
	}{
		{upside, 0, 31, nil, api.ErrOrder}, {receiver(), 0, 0, one, api.ErrRange}, {receiver(), 17, 0, one, api.ErrRange}, {receiver(), 16, 0, one, api.OK}, {receiver(), 1, 0, one, api.OK},
		{receiver(), 1, 31, one, api.ErrRange}, {receiver(), 1, -31, one, api.ErrRange}, {receiver(), 1, 30, one, api.OK}, {receiver(), 1, -30, one, api.OK},
		{receiver(), 1, 0, nil, api.ErrEmpty}, {receiver(), 0, 0, nil, api.ErrRange}, {receiver(), 1, 31, nil, api.ErrRange},
		{bad, 1, 0, nil, api.ErrRange}, {tone.Receiver{Full: math.MinInt}, 1, 0, nil, api.ErrRange},
	} {
		out, e := tone.Followed(x.r, x.lag, x.start, x.l)
		same(t, "Followed with errors", all(i, len(out) == 1, e), all(i, x.e == api.OK, x.e))
	}
}

// lists returns lists of signals with their errors.
func lists() []struct {
	l []tone.Signal
	e api.Errno
} {
	many := slices.Repeat([]tone.Signal{example()}, 257)
	return []struct {
		l []tone.Signal
		e api.Errno
	}{
		{nil, api.ErrEmpty}, {[]tone.Signal{}, api.ErrEmpty}, {many[1:], api.OK}, {many, api.ErrMany}, {append(many[:256:256], none), api.ErrMany},
		{append(many[:255:255], none), api.ErrZero}, {[]tone.Signal{example(), none, far}, api.ErrZero}, {[]tone.Signal{far, none}, api.ErrRange}, {[]tone.Signal{none}, api.ErrZero},
	}
}

func TestErrorsOfSignals(t *testing.T) {
	for i, x := range lists() {
		out, e := tone.Followed(receiver(), 1, 0, x.l)
		same(t, "Followed", all(i, len(out) == 256, e), all(i, x.e == api.OK, x.e))
		spans, e := tone.Crossings(x.l)
		same(t, "Crossings", all(i, spans, e), all(i, []api.Span(nil), x.e))
		spans, e = tone.Flagged(receiver(), x.l)
		same(t, "Flagged", all(i, spans, e), all(i, []api.Span(nil), x.e))
	}
	for i, x := range badReceivers() {
		spans, e := tone.Flagged(x.of(receiver()), nil)
		same(t, "Flagged with errors of the receiver", all(i, spans, e), all(i, []api.Span(nil), x.e))
	}
}

func TestCaptured(t *testing.T) {
	same(t, "Both", all(tone.Both), all(2))
	other := plain(6, 0, 3)
	for i, x := range []struct {
		l      [2]tone.Signal
		band   int
		which  int
		needle api.Ratio
	}{
		{[2]tone.Signal{example(), other}, 2000, 0, ratio(1, 5)},
		{[2]tone.Signal{other, example()}, 2000, 1, ratio(1, 5)},
		{[2]tone.Signal{example(), other}, 3000, tone.Both, ratio(1, 68)},
		{[2]tone.Signal{other, example()}, 3000, tone.Both, ratio(1, 68)},
		{[2]tone.Signal{plain(10, 1, 0), plain(5, 0, 1)}, 4000, 0, ratio(1, 10)}, // 100 against 25
		{[2]tone.Signal{plain(10, 1, 0), plain(5, 0, 1)}, 4001, tone.Both, ratio(1, 25)},
		{[2]tone.Signal{plain(5, 1, 0), plain(10, 0, 1)}, 4000, 1, ratio(-1, 10)},
		{[2]tone.Signal{plain(5, 1, 0), plain(10, 0, 1)}, 4001, tone.Both, ratio(-1, 25)},
		{[2]tone.Signal{plain(5, 1, 0), plain(-5, 0, 1)}, 1000, 0, ratio(1, 5)},
		{[2]tone.Signal{plain(5, 1, 0), plain(-5, 0, 1)}, 1001, tone.Both, ratio(1, 5)},
		{[2]tone.Signal{plain(5, 1, 0), plain(6, 0, 1)}, 1000, 1, ratio(-1, 6)},
		{[2]tone.Signal{plain(10000, 1, 0), plain(1, 1, 0)}, 10000, 0, ratio(1, 10000)},
		{[2]tone.Signal{{Carrier: gauss(10000, 10000), Low: gauss(10000, 10000)}, {Carrier: gauss(-10000, 10000), High: gauss(10000, -10000)}}, 10000, tone.Both, ratio(1, 1)},
	} {
		which, e := tone.Captured(x.l, x.band)
		same(t, "Captured", all(i, which, e), all(i, x.which, api.OK))
		needle, e := tone.Mixed(x.l, x.band)
		same(t, "Mixed", all(i, needle, e), all(i, x.needle, api.OK))
	}
	r := numbers{9}
	for range 3000 {
		most := []int{3, 50, 10000}[r.below(3)]
		l, band := [2]tone.Signal{r.signal(most), r.signal(most)}, 1000+r.below(9001)
		a, b := squareOf(l[0].Carrier), squareOf(l[1].Carrier)
		which := tone.Both
		needle := ratio(0, 1)
		switch {
		case a*1000 >= b*band:
			which, needle = 0, lowest(needleOf(l[0]))
		case b*1000 >= a*band:
			which, needle = 1, lowest(needleOf(l[1]))
		default:
			sum := times(needleOf(l[0]), a)
			sum.Add(sum, times(needleOf(l[1]), b))
			needle = lowest(sum.Quo(sum, times(ratOf(1), a+b)))
		}
		got, _ := tone.Captured(l, band)
		mixed, _ := tone.Mixed(l, band)
		same(t, "Captured and Mixed", all(l, band, got, mixed), all(l, band, which, needle))
	}
}

func TestCapturedErrors(t *testing.T) {
	for i, x := range []struct {
		l    [2]tone.Signal
		band int
		e    api.Errno
	}{
		{[2]tone.Signal{none, far}, 0, api.ErrZero}, {[2]tone.Signal{far, none}, 0, api.ErrRange}, {[2]tone.Signal{example(), none}, 0, api.ErrZero}, {[2]tone.Signal{example(), far}, 1000, api.ErrRange},
		{[2]tone.Signal{example(), example()}, 999, api.ErrRange}, {[2]tone.Signal{example(), example()}, 10001, api.ErrRange}, {[2]tone.Signal{example(), example()}, -1000, api.ErrRange}, {[2]tone.Signal{}, 1000, api.ErrZero},
	} {
		which, e := tone.Captured(x.l, x.band)
		same(t, "Captured with errors", all(i, which, e), all(i, 0, x.e))
		needle, e := tone.Mixed(x.l, x.band)
		same(t, "Mixed with errors", all(i, needle, e), all(i, api.Ratio{}, x.e))
	}
}

// signed returns a signal for each sign: one with a needle of this sign.
func signed(signs string) []tone.Signal {
	var l []tone.Signal
	for _, sign := range signs {
		switch sign {
		case '+':
			l = append(l, plain(10, 3, 1))
		case '-':
			l = append(l, plain(-10, 3, 1))
		default:
			l = append(l, tone.Signal{Carrier: gauss(10, 0), Low: gauss(3, 5), High: gauss(3, -5)})
		}
	}
	return l
}

func TestCrossings(t *testing.T) {
	for signs, want := range map[string][]api.Span{
		"+": nil, "-": nil, "0": {span(0, 1)}, "00": {span(0, 2)}, "++": nil, "--": nil, "+-": {span(0, 2)}, "-+": {span(0, 2)},
		"+-0": {span(0, 2), span(2, 3)}, "+0-": {span(1, 2)}, "+0+": {span(1, 2)}, "0+-": {span(0, 1), span(1, 3)}, "0-+0": {span(0, 1), span(1, 3), span(3, 4)},
		"+-+-": {span(0, 2), span(1, 3), span(2, 4)}, "-000+": {span(1, 4)}, "++00--0+": {span(2, 4), span(6, 7)}, "--++": {span(1, 3)}, "00++-00": {span(0, 2), span(3, 5), span(5, 7)},
	} {
		spans, e := tone.Crossings(signed(signs))
		same(t, "Crossings of "+signs, all(spans, e), all(want, api.OK))
	}
	spans, e := tone.Crossings([]tone.Signal{example(), plain(10, 1, 3), plain(10, 1, 1)})
	same(t, "Crossings of the example", all(spans, e), all([]api.Span{span(0, 2), span(2, 3)}, api.OK))
	spans, e = tone.Crossings([]tone.Signal{plain(10000, 1, 0), plain(10000, -1, 0)})
	same(t, "Crossings of small needles", all(spans, e), all([]api.Span{span(0, 2)}, api.OK))
}

func TestFlagged(t *testing.T) {
	for flags, want := range map[string][]api.Span{
		".": nil, "w": {span(0, 1)}, "d": {span(0, 1)}, "..": nil, "wd": {span(0, 2)}, ".w.": {span(1, 2)}, "w.d": {span(0, 1), span(2, 3)}, "..wdw..dd": {span(2, 5), span(7, 9)}, "ww": {span(0, 2)},
	} {
		var l []tone.Signal
		for _, flag := range flags {
			l = append(l, map[rune]tone.Signal{'.': example(), 'w': plain(7, 1, 1), 'd': plain(10, 6, 1)}[flag])
		}
		spans, e := tone.Flagged(receiver(), l)
		same(t, "Flagged of "+flags, all(spans, e), all(want, api.OK))
	}
}
