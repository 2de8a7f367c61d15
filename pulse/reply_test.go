package pulse_test

import (
	"slices"
	"testing"

	"glideslope/api"
	"glideslope/pulse"
)

// The tests of this file are those of P7.1 for squitter, replies, loads and pulses.

func TestExampleReplies(t *testing.T) {
	same(t, "Squitter", squitter(stationD, callsC, 2000), all(ticks(750, 1150, 1550, 1950), api.OK))
	same(t, "Replies", replied(stationD, callsC, 2000), all(ticks(150, 250, 350, 750, 1150, 1550, 1950), api.OK))
	same(t, "Load", loaded(stationD, callsC, 2000), all(4, api.OK))
	same(t, "Sent", sent(stationD, callsC, 2000), all(ticks(150, 162, 250, 262, 350, 362, 750, 762, 1150, 1162, 1550, 1562, 1950, 1962), api.OK))
	// replies to calls are sent from until on, too
	same(t, "up to 0", all(squitter(stationD, callsC, 0), replied(stationD, callsC, 0), loaded(stationD, callsC, 0)), all(all([]int{}, api.OK), all(ticks(150, 250, 350), api.OK), all(3, api.OK)))
	same(t, "without calls", all(replied(stationD, nil, 801), loaded(stationD, nil, 801), sent(stationD, nil, 801)), all(all(ticks(400, 800), api.OK), all(2, api.OK), all(ticks(400, 412, 800, 812), api.OK)))
	same(t, "without replies", all(squitter(stationD, nil, 400), replied(stationD, nil, 400), loaded(stationD, nil, 400), sent(stationD, nil, 400)), all(all([]int{}, api.OK), all([]int{}, api.OK), all(0, api.OK), all([]int{}, api.OK)))
}

func TestSquitter(t *testing.T) {
	tens := quick(func(s *pulse.Station) { s.Gap = 10 })
	for i, x := range []struct {
		s     pulse.Station
		calls []int
		until int
		want  []int
	}{
		// until is not included
		{tens, nil, 9, nil}, {tens, nil, 10, nil}, {tens, nil, 11, ticks(10)}, {tens, nil, 20, ticks(10)}, {tens, nil, 21, ticks(10, 20)},
		// a reply within the gap, its end included, begins another one
		{tens, ticks(0), 25, ticks(10, 20)}, {tens, ticks(1), 25, ticks(11, 21)}, {tens, ticks(9), 25, ticks(19)}, {tens, ticks(10), 25, ticks(20)}, {tens, ticks(11), 25, ticks(10, 21)}, {tens, ticks(20), 31, ticks(10, 30)}, {tens, ticks(10, 20), 30, nil}, {tens, ticks(10, 20), 31, ticks(30)},
		// from until on, and about it
		{tens, ticks(100), 25, ticks(10, 20)}, {tens, ticks(100), 90, ticks(10, 20, 30, 40, 50, 60, 70, 80)}, {tens, ticks(25), 25, ticks(10, 20)}, {tens, ticks(5, 30), 25, ticks(15)}, {tens, ticks(24), 25, ticks(10, 20)}, {tens, ticks(3, 13), 24, ticks(23)}, {tens, ticks(3, 13), 23, nil},
		// by the ticks of replies, and of calls that are answered alone
		{with(tens, func(s *pulse.Station) { s.Delay = 7 }), ticks(1, 20), 40, ticks(18, 37)}, {with(tens, func(s *pulse.Station) { s.Dead = 6 }), ticks(4, 9, 14), 30, ticks(24)}, {with(tens, func(s *pulse.Station) { s.Dead = 10 }), ticks(4, 9, 14), 30, ticks(14, 24)},
		{least, nil, 4, ticks(1, 2, 3)}, {least, ticks(2), 5, ticks(1, 3, 4)}, {most, nil, 3000000, ticks(1000000, 2000000)},
		{with(most, func(s *pulse.Station) { s.Delay = 0 }), ticks(99999999), 100000000, every(99, 1000000, 1000000)},
	} {
		same(t, "Squitter", all(i, squitter(x.s, x.calls, x.until)), all(i, all(x.want, api.OK)))
	}
}

func TestReplies(t *testing.T) {
	// windows include their last tick; the load counts replies from until on, too
	for i, x := range []struct {
		window int
		calls  []int
		until  int
		want   int
	}{
		{1, ticks(1, 2, 3), 0, 1}, {2, ticks(1, 2, 3), 0, 2}, {2, ticks(1, 3, 5), 0, 1}, {10, ticks(0, 9, 10, 19), 0, 2}, {11, ticks(0, 9, 10, 19), 0, 3}, {10, ticks(50, 100, 101, 102, 200, 201), 0, 3}, {1000000, ticks(0, 999999, 1000000), 0, 2},
		{101, nil, 1001, 2}, {100, nil, 1001, 1}, {110, ticks(110), 1001, 2}, {111, ticks(110), 1001, 3},
	} {
		s := quick(func(s *pulse.Station) { s.Window, s.Gap, s.Most = x.window, 100, 1000 })
		same(t, "Load", all(i, loaded(s, x.calls, x.until)), all(i, all(x.want, api.OK)))
	}
	// a pulse that is the second one of a pair, and the first one of another one, is sent once
	s := quick(func(s *pulse.Station) {})
	same(t, "Sent", sent(s, ticks(5, 15, 20, 25, 99999999), 0), all(ticks(5, 15, 20, 25, 30, 35, 99999999, 100000009), api.OK))
	r := numbers{5}
	for range 1500 {
		s, calls, until := r.station(1+r.below(40)), r.ticks(128, 1+r.below(15)), r.below(1500)
		l := repliesOf(s, calls, until)
		if len(l) > 256 {
			for _, got := range [][]any{squitter(s, calls, until), replied(s, calls, until), sent(s, calls, until)} {
				same(t, "too many", all(s, calls, until, got), all(s, calls, until, all([]int{}, api.ErrMany)))
			}
			same(t, "too many", all(s, calls, until, loaded(s, calls, until)), all(s, calls, until, all(0, api.ErrMany)))
			continue
		}
		same(t, "Squitter", all(s, calls, until, squitter(s, calls, until)), all(s, calls, until, all(squitterOf(s, calls, until), api.OK)))
		same(t, "Replies", all(s, calls, until, replied(s, calls, until)), all(s, calls, until, all(l, api.OK)))
		same(t, "Load", all(s, calls, until, loaded(s, calls, until)), all(s, calls, until, all(loadOf(l, s.Window), api.OK)))
		same(t, "Sent", all(s, calls, until, sent(s, calls, until)), all(s, calls, until, all(sentOf(l, s.Spacing), api.OK)))
	}
}

func TestManyReplies(t *testing.T) {
	for i, x := range []struct {
		calls []int
		until int
		is    bool
	}{
		{nil, 257, true}, {nil, 258, false}, {nil, 100000000, false},
		{ticks(100), 257, true}, {ticks(300), 256, true}, {ticks(300), 257, false}, {ticks(300), 300, false}, {every(128, 1000, 1), 129, true}, {every(128, 1000, 1), 130, false}, {every(128, 1, 1), 257, true}, {every(128, 1, 1), 258, false}, {every(127, 1000, 1), 130, true}, {every(128, 99999000, 1), 100000000, false},
	} {
		s := with(least, func(s *pulse.Station) { s.Most = 1000 })
		l := repliesOf(s, x.calls, min(x.until, 400))
		same(t, "are there too many", all(i, len(l) <= 256), all(i, x.is))
		if !x.is {
			same(t, "ErrMany", all(i, squitter(s, x.calls, x.until), replied(s, x.calls, x.until), loaded(s, x.calls, x.until), sent(s, x.calls, x.until)), all(i, all([]int{}, api.ErrMany), all([]int{}, api.ErrMany), all(0, api.ErrMany), all([]int{}, api.ErrMany)))
			continue
		}
		same(t, "Replies", all(i, replied(s, x.calls, x.until)), all(i, all(l, api.OK)))
		same(t, "Squitter", all(i, squitter(s, x.calls, x.until)), all(i, all(squitterOf(s, x.calls, x.until), api.OK)))
		same(t, "Load", all(i, loaded(s, x.calls, x.until)), all(i, all(1, api.OK)))
		same(t, "Sent", all(i, sent(s, x.calls, x.until)), all(i, all(sentOf(l, 1), api.OK)))
	}
	// twice as many pulses may be sent
	wide := with(least, func(s *pulse.Station) { s.Spacing, s.Gap = 1, 2 })
	same(t, "Sent", sent(wide, nil, 513), all(every(512, 2, 1), api.OK))
}

func TestReplyErrors(t *testing.T) {
	arguments := []argument{argumentOf(stationD, badStations()), argumentOf(callsC, badTicks(128)), argumentOf(2000, badTick)}
	for what, call := range map[string]func(s pulse.Station, calls []int, until int) []any{"Squitter": squitter, "Replies": replied, "Load": loaded, "Sent": sent} {
		nothing := all([]int{})
		if what == "Load" {
			nothing = all(0)
		}
		checkErrors(t, what, func(a []any) []any { return call(a[0].(pulse.Station), a[1].([]int), a[2].(int)) }, nothing, arguments...)
	}
	// the error of an argument comes before that of the replies
	l := slices.Clone(callsC)
	l[5] = 0
	same(t, "Replies", all(replied(least, l, 100000000), replied(least, nil, 100000001)), all(all([]int{}, api.ErrOrder), all([]int{}, api.ErrRange)))
}
