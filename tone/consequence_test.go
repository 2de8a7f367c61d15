package tone_test

import (
	"math"
	"slices"
	"testing"

	"glideslope/api"
	"glideslope/tone"
)

// The tests of this file are those of P2.5, and of the rules that hold for all functions: P1, memory and determinism.

// values returns the depths, the needle and the sum of a signal.
func values(s tone.Signal) []any {
	low, high, a := tone.Depths(s)
	needle, b := tone.Needle(s)
	sum, c := tone.Sum(s)
	return all(low, high, a, needle, b, sum, c)
}

func TestFactorChangesNothing(t *testing.T) {
	r := numbers{21}
	for range 1000 {
		s := r.signal(70)
		factor := r.gauss(70)
		factor.Re += 1 - factor.Re%2 // not 0
		out, e := tone.Scaled(s, factor, factor)
		same(t, "Scaled", all(e), all(api.OK))
		same(t, "values of a scaled signal", values(out), values(s))
		for k := range 4 {
			out, e := tone.Turned(s, k)
			same(t, "Turned", all(e), all(api.OK))
			same(t, "values of a turned signal", values(out), values(s))
			back, e := tone.Turned(out, (4-k)%4)
			same(t, "Turned back", all(back, e), all(s, api.OK))
		}
	}
}

func TestExchangedTones(t *testing.T) {
	r := numbers{23}
	for range 1000 {
		s := r.sized()
		other := tone.Signal{Carrier: s.Carrier, Low: s.High, High: s.Low}
		a, _ := tone.Needle(s)
		b, _ := tone.Needle(other)
		same(t, "needle of exchanged tones", all(b), all(ratio(-a.Num, a.Den)))
	}
}

func TestSamplesGiveTheSignalBack(t *testing.T) {
	r := numbers{25}
	for range 1000 {
		s := r.sized()
		p, e := tone.Sampled(s)
		same(t, "Sampled", all(e), all(api.OK))
		back, left, e := tone.Received(p)
		same(t, "Received", all(back, left, e), all(s, gauss(0, 0), api.OK))
	}
}

func TestAverageIsTheMean(t *testing.T) {
	r := numbers{27}
	for range 300 {
		mean, n := r.signal(5000), 1+r.below(64)
		// errors of the sidebands, whose sums are 0
		var l [][4]complex64
		var low, high api.Gauss
		for i := range n {
			x, y := r.gauss(50), r.gauss(50)
			if i == n-1 {
				x, y = gauss(-low.Re, -low.Im), gauss(-high.Re, -high.Im)
			}
			low, high = gauss(low.Re+x.Re, low.Im+x.Im), gauss(high.Re+y.Re, high.Im+y.Im)
			s := mean
			s.Low, s.High = gauss(s.Low.Re+x.Re, s.Low.Im+x.Im), gauss(s.High.Re+y.Re, s.High.Im+y.Im)
			p, e := tone.Sampled(s)
			same(t, "Sampled", all(e), all(api.OK))
			l = append(l, p)
		}
		s, left, e := tone.Averaged(l)
		same(t, "Averaged", all(s, left, e), all(mean, gauss(0, 0), api.OK))
	}
}

func TestLagStaysWithin(t *testing.T) {
	r := numbers{29}
	for range 300 {
		x, lag := r.receiver(20), 1+r.below(16)
		start := r.within(x.Full)
		least, most := start, start
		var l []tone.Signal
		for range 40 {
			s := r.signal(20)
			l = append(l, s)
			if n, flag, _ := tone.Told(x, s); flag == "" {
				least, most = min(least, n), max(most, n)
			}
		}
		out, _ := tone.Followed(x, lag, start, l)
		if slices.Min(out) < least || slices.Max(out) > most {
			t.Errorf("Followed(%v, %d, %d): %v, not from %d to %d", x, lag, start, out, least, most)
		}
	}
}

func TestCapturedIsHeardAlone(t *testing.T) {
	r := numbers{31}
	for range 1000 {
		l, band := [2]tone.Signal{r.signal(30), r.signal(30)}, 1000+r.below(3000)
		which, _ := tone.Captured(l, band)
		if which != tone.Both {
			mixed, _ := tone.Mixed(l, band)
			l[1-which].Low, l[1-which].High = r.gauss(30), r.gauss(30)
			needle, _ := tone.Needle(l[which])
			again, _ := tone.Mixed(l, band)
			same(t, "Mixed with a captured receiver", all(mixed, again), all(needle, needle))
		}
		// two signals with one needle
		s := r.signal(30)
		other, _ := tone.Scaled(s, gauss(2, 1), gauss(2, 1))
		needle, _ := tone.Needle(s)
		mixed, e := tone.Mixed([2]tone.Signal{s, other}, 10000)
		same(t, "Mixed with one needle", all(mixed, e), all(needle, api.OK))
	}
}

func TestLossesAndErrorsLieWithin(t *testing.T) {
	r := numbers{33}
	for range 1000 {
		x := open(1+r.below(1000), 1+r.below(1000))
		s := tone.Signal{Carrier: r.gauss(3000), Low: gauss(1000*r.within(3), 0), High: gauss(0, 1000*r.within(3))}
		s.Carrier.Re += 3001
		low := r.below(1000)
		loss := interval(low, low+r.below(1001-low))
		within, e := tone.Lost(x, s, loss)
		same(t, "Lost", all(e), all(api.OK))
		for range 10 {
			left := 1000 - loss.Low - r.below(loss.High-loss.Low+1)
			weaker := s
			weaker.Low.Re, weaker.High.Im = s.Low.Re/1000*left, s.High.Im/1000*left
			liesWithin(t, x, weaker, within)
		}
		noise := r.below(1001)
		within, e = tone.Noisy(x, s, noise)
		same(t, "Noisy", all(e), all(api.OK))
		for i := range 16 {
			off := s
			for j, part := range []*int{&off.Low.Re, &off.Low.Im, &off.High.Re, &off.High.Im} {
				*part += noise * (1 - i>>j%2*2)
			}
			liesWithin(t, x, off, within)
		}
	}
}

// liesWithin fails the test if the needle of a signal does not lie in an interval.
func liesWithin(t *testing.T, r tone.Receiver, s tone.Signal, within api.Interval) {
	t.Helper()
	n, flag, e := tone.Told(r, s)
	if e != api.OK || flag == "" && (n < within.Low || n > within.High) {
		t.Errorf("Told(%v, %v): %d, %q, %v, not in %v", r, s, n, flag, e, within)
	}
}

func TestParsedAsPrinted(t *testing.T) {
	r := numbers{35}
	for range 300 {
		var l []tone.Signal
		for range 1 + r.below(80) {
			l = append(l, r.sized())
		}
		s, e := tone.Print(l)
		back, at, f := tone.Parse(s)
		if len(s) > api.MaxText {
			l = nil
			same(t, "Parse of too much", all(e, back, at, f), all(api.OK, l, 0, api.ErrLong))
			continue
		}
		same(t, "Print and Parse", all(e, back, at, f), all(api.OK, l, 0, api.OK))
		damaged := []byte(s)
		damaged[r.below(len(s))] = byte("0 -\nxs"[r.below(6)])
		if l, _, e := tone.Parse(string(damaged)); e == api.OK {
			again, _ := tone.Print(l)
			same(t, "Parse and Print", all(again), all(string(damaged)))
		}
	}
}

// P1: no function panics, whatever its arguments are.
func TestNoPanics(t *testing.T) {
	ints := []int{math.MinInt, -1000000000, -1, 0, 1, 9, 10000, 1000000000, math.MaxInt}
	for _, a := range ints {
		for _, b := range ints {
			for _, s := range []tone.Signal{{Carrier: gauss(a, b)}, {Carrier: gauss(1, 1), Low: gauss(a, b)}, {Carrier: gauss(b, b), High: gauss(b, a)}, example()} {
				for _, r := range []tone.Receiver{receiver(), {Scale: a, Full: b}, {Scale: 1, Full: 1, Least: a, Sum: interval(b, a)}} {
					l := []tone.Signal{s, example()}
					noPanic(t, "CheckSignal", func() { tone.CheckSignal(s) })
					noPanic(t, "values", func() { values(s) })
					noPanic(t, "Added", func() { tone.Added(s, s) })
					noPanic(t, "Turned", func() { tone.Turned(s, a) })
					noPanic(t, "Scaled", func() { tone.Scaled(s, gauss(a, b), gauss(b, a)) })
					noPanic(t, "CheckReceiver", func() { tone.CheckReceiver(r) })
					noPanic(t, "Told", func() { tone.Told(r, s) })
					noPanic(t, "Followed", func() { tone.Followed(r, a, b, l) })
					noPanic(t, "Captured", func() { tone.Captured([2]tone.Signal{s, example()}, a) })
					noPanic(t, "Mixed", func() { tone.Mixed([2]tone.Signal{example(), s}, a) })
					noPanic(t, "Sampled", func() { tone.Sampled(s) })
					noPanic(t, "Lost", func() { tone.Lost(r, s, interval(a, b)) })
					noPanic(t, "Noisy", func() { tone.Noisy(r, s, a) })
					noPanic(t, "Crossings", func() { tone.Crossings(l) })
					noPanic(t, "Flagged", func() { tone.Flagged(r, l) })
					noPanic(t, "Print", func() { tone.Print(l) })
				}
			}
		}
	}
	for _, x := range badPanels() {
		noPanic(t, "Averaged", func() { tone.Averaged([]panel{x.p, {1, 2, 3, 4}}) })
	}
	r := numbers{37}
	for range 2000 {
		s := make([]byte, r.below(60))
		for i := range s {
			s[i] = []byte{' ', ' ', '\n', '-', '0', '1', byte(r.below(256))}[r.below(7)]
		}
		noPanic(t, "Parse", func() { tone.Parse("signal 1 0 " + string(s)) })
	}
}

// Arguments stay as they are, and a result that is changed changes neither an argument nor a later result.
func TestMemory(t *testing.T) {
	l := signed("+-0+0")
	panels := []panel{{14, 12, 8, 6}, {14, 12, 8, 6}}
	room := append(l, example())[:5] // what is behind a list is not written to
	before := shown(l, room[:6], panels)
	once := func() string {
		a, _ := tone.Followed(receiver(), 2, 5, room)
		b, _ := tone.Crossings(room)
		c, _ := tone.Flagged(receiver(), room)
		d, _ := tone.Print(room)
		f, _, _ := tone.Parse(d)
		g, h, _ := tone.Averaged(panels)
		i, _ := tone.Captured([2]tone.Signal{room[0], room[1]}, 1000)
		j := shown(a, b, c, d, f, g, h, i)
		clear(a)
		clear(b)
		clear(c)
		clear(f)
		return j
	}
	want := once()
	for range 5 {
		same(t, "results again", all(once()), all(want))
	}
	same(t, "arguments", all(shown(l, room[:6], panels)), all(before))
}
