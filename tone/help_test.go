package tone_test

import (
	"fmt"
	"math"
	"math/big"
	"strings"
	"testing"

	"glideslope/api"
	"glideslope/tone"
)

// shown writes values so that all that is different looks different, but for nil and empty lists.
func shown(l ...any) string {
	return strings.ReplaceAll(fmt.Sprintf("%#v", l), "(nil)", "{}")
}

// same compares results with the expected ones.
func same(t *testing.T, what string, got, want []any) {
	t.Helper()
	if g, w := shown(got...), shown(want...); g != w {
		t.Errorf("%s:\n got %s\nwant %s", what, g, w)
	}
}

// all is its arguments as a list: the results of a call.
func all(l ...any) []any { return l }

// noPanic fails the test if a function panics.
func noPanic(t *testing.T, what string, f func()) {
	t.Helper()
	defer func() {
		if x := recover(); x != nil {
			t.Errorf("%s panics: %v", what, x)
		}
	}()
	f()
}

func gauss(re, im int) api.Gauss { return api.Gauss{Re: re, Im: im} }

func ratio(num, den int) api.Ratio { return api.Ratio{Num: num, Den: den} }

func span(from, to int) api.Span { return api.Span{From: from, To: to} }

func interval(low, high int) api.Interval { return api.Interval{Low: low, High: high} }

// plain returns the signal of real numbers.
func plain(carrier, low, high int) tone.Signal {
	return tone.Signal{Carrier: gauss(carrier, 0), Low: gauss(low, 0), High: gauss(high, 0)}
}

// example returns the signal S of the chapter's examples.
func example() tone.Signal { return plain(10, 3, 1) }

// receiver returns the receiver R of the chapter's examples.
func receiver() tone.Receiver {
	return tone.Receiver{Scale: 100, Full: 30, Least: 50, Sum: interval(200, 600)}
}

// open returns a receiver that shows no flag but for a sum beyond 10 either way.
func open(scale, full int) tone.Receiver {
	return tone.Receiver{Scale: scale, Full: full, Sum: interval(-10000, 10000)}
}

// numbers is a row of numbers that look random, and are the same in each run.
type numbers struct{ x uint64 }

func (r *numbers) below(n int) int {
	r.x = r.x*6364136223846793005 + 1442695040888963407
	return int((r.x >> 33) % uint64(n))
}

// within returns a number from -most to most.
func (r *numbers) within(most int) int { return r.below(2*most+1) - most }

func (r *numbers) gauss(most int) api.Gauss { return gauss(r.within(most), r.within(most)) }

// signal returns a signal whose parts are at most a number.
func (r *numbers) signal(most int) tone.Signal {
	s := tone.Signal{Carrier: r.gauss(most), Low: r.gauss(most), High: r.gauss(most)}
	if s.Carrier == gauss(0, 0) {
		s.Carrier.Im = -1
	}
	return s
}

// sized returns a signal with small or with large parts.
func (r *numbers) sized() tone.Signal { return r.signal([]int{1, 3, 20, 500, 10000}[r.below(5)]) }

// receiver returns a receiver for signals with parts up to a number.
func (r *numbers) receiver(most int) tone.Receiver {
	low := r.within(2000)
	return tone.Receiver{Scale: 1 + r.below(1000), Full: 1 + r.below(1000), Least: r.below(most*most + 1), Sum: interval(low, low+r.below(4000))}
}

// The following functions are the definitions of the chapter, with ratios of any size.

// depthOf is the depth of a sideband.
func depthOf(sideband, carrier api.Gauss) *big.Rat {
	re := sideband.Re*carrier.Re + sideband.Im*carrier.Im
	return big.NewRat(int64(re), int64(squareOf(carrier)))
}

func squareOf(g api.Gauss) int { return g.Re*g.Re + g.Im*g.Im }

func needleOf(s tone.Signal) *big.Rat {
	return new(big.Rat).Sub(depthOf(s.Low, s.Carrier), depthOf(s.High, s.Carrier))
}

func sumOf(s tone.Signal) *big.Rat {
	return new(big.Rat).Add(depthOf(s.Low, s.Carrier), depthOf(s.High, s.Carrier))
}

// lowest is a ratio in lowest terms.
func lowest(x *big.Rat) api.Ratio {
	return ratio(int(x.Num().Int64()), int(x.Denom().Int64()))
}

func ratOf(n int) *big.Rat { return big.NewRat(int64(n), 1) }

func times(x *big.Rat, n int) *big.Rat { return new(big.Rat).Mul(x, ratOf(n)) }

// downOf is a ratio rounded down.
func downOf(x *big.Rat) int {
	return int(new(big.Int).Div(x.Num(), x.Denom()).Int64()) // Euclid's division rounds down, for the denominator is above 0
}

// shownOf is what a receiver without a flag shows for a needle.
func shownOf(r tone.Receiver, needle *big.Rat) int {
	n := downOf(new(big.Rat).Add(times(needle, r.Scale), big.NewRat(1, 2)))
	return max(-r.Full, min(r.Full, n))
}

// flagOf is the flag of a receiver.
func flagOf(r tone.Receiver, s tone.Signal) string {
	sum := times(sumOf(s), 1000)
	switch {
	case squareOf(s.Carrier) < r.Least:
		return "weak"
	case sum.Cmp(ratOf(r.Sum.Low)) < 0, sum.Cmp(ratOf(r.Sum.High)) > 0:
		return "depth"
	}
	return ""
}

// toldOf is the needle that a receiver shows.
func toldOf(r tone.Receiver, s tone.Signal) int {
	if flagOf(r, s) != "" {
		return 0
	}
	return shownOf(r, needleOf(s))
}

// badSignal is a change that gives a signal an error.
type badSignal struct {
	change func(s *tone.Signal)
	e      api.Errno
}

// badSignals returns changes with their errors.
func badSignals() []badSignal {
	return []badSignal{
		{func(s *tone.Signal) { s.Carrier.Re = 10001 }, api.ErrRange},
		{func(s *tone.Signal) { s.Carrier.Re = -10001 }, api.ErrRange},
		{func(s *tone.Signal) { s.Carrier.Im = 10001 }, api.ErrRange},
		{func(s *tone.Signal) { s.Carrier.Im = -10001 }, api.ErrRange},
		{func(s *tone.Signal) { s.Low.Re = 10001 }, api.ErrRange},
		{func(s *tone.Signal) { s.Low.Im = -10001 }, api.ErrRange},
		{func(s *tone.Signal) { s.High.Re = math.MinInt }, api.ErrRange},
		{func(s *tone.Signal) { s.High.Im = math.MaxInt }, api.ErrRange},
		{func(s *tone.Signal) { s.Carrier = gauss(0, 0) }, api.ErrZero},
		{func(s *tone.Signal) { s.Carrier, s.High = gauss(0, 0), gauss(0, 10001) }, api.ErrRange},
		{func(s *tone.Signal) { *s = tone.Signal{} }, api.ErrZero},
	}
}

// badReceiver is a change that gives a receiver an error.
type badReceiver struct {
	change func(r *tone.Receiver)
	e      api.Errno
}

// badReceivers returns changes with their errors.
func badReceivers() []badReceiver {
	return []badReceiver{
		{func(r *tone.Receiver) { r.Scale = 0 }, api.ErrRange},
		{func(r *tone.Receiver) { r.Scale = 1001 }, api.ErrRange},
		{func(r *tone.Receiver) { r.Full = 0 }, api.ErrRange},
		{func(r *tone.Receiver) { r.Full = 1001 }, api.ErrRange},
		{func(r *tone.Receiver) { r.Full = math.MinInt }, api.ErrRange},
		{func(r *tone.Receiver) { r.Least = -1 }, api.ErrRange},
		{func(r *tone.Receiver) { r.Least = 200000001 }, api.ErrRange},
		{func(r *tone.Receiver) { r.Sum = interval(-10001, 0) }, api.ErrRange},
		{func(r *tone.Receiver) { r.Sum = interval(0, 10001) }, api.ErrRange},
		{func(r *tone.Receiver) { r.Sum = interval(10001, 0) }, api.ErrRange},
		{func(r *tone.Receiver) { r.Sum = interval(0, -10001) }, api.ErrRange},
		{func(r *tone.Receiver) { r.Sum = interval(1, 0) }, api.ErrOrder},
		{func(r *tone.Receiver) { r.Sum, r.Scale = interval(1, 0), 0 }, api.ErrRange},
		{func(r *tone.Receiver) { *r = tone.Receiver{} }, api.ErrRange},
	}
}

func (x badSignal) of(s tone.Signal) tone.Signal {
	x.change(&s)
	return s
}

func (x badReceiver) of(r tone.Receiver) tone.Receiver {
	x.change(&r)
	return r
}

// none is a signal whose error is ErrZero, far one whose error is ErrRange.
var (
	none = tone.Signal{}
	far  = plain(10001, 0, 0)
)

// bad is a receiver whose error is ErrRange, upside one whose error is ErrOrder.
var (
	bad    = tone.Receiver{}
	upside = tone.Receiver{Scale: 1, Full: 1, Sum: interval(1, 0)}
)
