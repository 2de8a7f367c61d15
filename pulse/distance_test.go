package pulse_test

import (
	"testing"

	"glideslope/api"
	"glideslope/pulse"
)

// The tests of this file are those of P7.2.

func TestExampleDistances(t *testing.T) {
	same(t, "Distance", all(distance(stationD, 200, 350), distance(stationD, 310, 350)), all(all(interval(49, 51), api.OK), all(interval(0, 0), api.ErrNone)))
	same(t, "Agreed", all(agreed(stationD, calls6, replies6, 100), agreed(stationD, calls6, replies6, 105), agreed(stationD, calls6, replies6, 99)), all(all(3, api.OK), all(1, api.OK), all(2, api.OK)))
	for need, want := range map[int][]any{1: all(100, 3, api.OK), 2: all(100, 3, api.OK), 3: all(100, 3, api.OK), 4: all(0, 0, api.ErrNone), 128: all(0, 0, api.ErrNone)} {
		same(t, "Ranged", all(need, ranged(stationD, calls6, replies6, need)), all(need, want))
	}
	for g, want := range map[pulse.Gate][]int{{Distance: 90, Width: 5, Memory: 1}: ticks(90, -1, -1), {Distance: 95, Width: 5, Memory: 1}: ticks(99, 99, 100)} {
		same(t, "Tracked", all(g, tracked(stationD, g, calls6, replies6)), all(g, all(want, api.OK)))
	}
}

func TestDistance(t *testing.T) {
	for i, x := range []struct {
		delay, off, call, reply int
		low, high               int
	}{
		// rounded to the inside
		{0, 0, 0, 0, 0, 0}, {0, 0, 0, 2, 1, 1}, {0, 1, 0, 2, 1, 1}, {0, 1, 0, 3, 1, 2}, {0, 2, 0, 3, 1, 2}, {0, 2, 0, 4, 1, 3}, {50, 2, 200, 349, 49, 50}, {50, 3, 200, 350, 49, 51},
		// at least 0
		{0, 1, 0, 0, 0, 0}, {0, 5, 0, 2, 0, 3}, {0, 5, 0, 5, 0, 5}, {0, 5, 0, 6, 1, 5}, {50, 2, 200, 250, 0, 1}, {50, 2, 200, 249, 0, 0}, {50, 2, 200, 248, 0, 0}, {50, 3, 200, 247, 0, 0},
		// as far as ticks go, also beyond MaxDistance
		{0, 1000, 0, 100000000, 49999500, 50000500}, {10000, 0, 0, 100000000, 49995000, 49995000}, {0, 1, 0, 2000001, 1000000, 1000001},
		// by the times alone, also if the reply is not after the call
		{0, 5, 10, 10, 0, 2}, {0, 5, 10, 9, 0, 2}, {0, 5, 10, 5, 0, 0}, {0, 1000, 100000000, 99999000, 0, 0},
	} {
		s := quick(func(s *pulse.Station) { s.Delay, s.Off = x.delay, x.off })
		same(t, "Distance", all(i, distance(s, x.call, x.reply)), all(i, all(interval(x.low, x.high), api.OK)))
	}
	for i, x := range [][4]int{{0, 0, 0, 1}, {0, 0, 0, 3}, {0, 0, 1, 0}, {0, 0, 2, 0}, {0, 1, 2, 0}, {50, 2, 200, 247}, {50, 2, 200, 246}, {50, 3, 200, 246}, {0, 5, 10, 4}, {0, 5, 10, 3}, {0, 1000, 100000000, 0}, {10000, 1000, 0, 8999}} {
		s := quick(func(s *pulse.Station) { s.Delay, s.Off = x[0], x[1] })
		same(t, "Distance of none", all(i, distance(s, x[2], x[3])), all(i, all(interval(0, 0), api.ErrNone)))
	}
	r := numbers{7}
	for range 5000 {
		s, call, reply := r.station(1+r.below(30)), r.below(60), r.below(300)
		var l []int
		for d := range 400 {
			if mayMean(s, call, reply, d) {
				l = append(l, d)
			}
		}
		want := all(interval(0, 0), api.ErrNone)
		if len(l) > 0 {
			want = all(interval(l[0], l[len(l)-1]), api.OK)
		}
		same(t, "Distance", all(s, call, reply, distance(s, call, reply)), all(s, call, reply, want))
	}
}

func TestAgreed(t *testing.T) {
	exact := func(off int) pulse.Station { return quick(func(s *pulse.Station) { s.Off = off }) }
	for i, x := range []struct {
		off            int
		calls, replies []int
		distance, n    int
	}{
		{0, nil, ticks(1), 0, 0}, {0, ticks(1), nil, 0, 0},
		// a reply at the tick of the call counts, one before it does not
		{0, ticks(10), ticks(10), 0, 1}, {4, ticks(10), ticks(9), 0, 0}, {4, ticks(10), ticks(9, 10), 0, 1}, {4, ticks(10), ticks(9, 11), 2, 1}, {1000, ticks(10), ticks(0, 1, 2, 9), 0, 0},
		// a call agrees once, and each by its own replies, or by the same one
		{5, ticks(0), ticks(20, 21, 22), 10, 1}, {5, ticks(0, 1, 2), ticks(20), 10, 3}, {0, ticks(0, 1, 2), ticks(20), 10, 1}, {0, ticks(0, 100), ticks(20, 120), 10, 2},
		{0, ticks(0), ticks(2000000), 1000000, 1}, {0, ticks(0), ticks(2000000), 999999, 0},
	} {
		same(t, "Agreed", all(i, agreed(exact(x.off), x.calls, x.replies, x.distance)), all(i, all(x.n, api.OK)))
	}
}

func TestRanged(t *testing.T) {
	for i, x := range []struct {
		off            int
		calls, replies []int
		need           int
		distance, n    int
		e              api.Errno
	}{
		{0, nil, nil, 1, 0, 0, api.ErrNone}, {0, ticks(5), nil, 1, 0, 0, api.ErrNone}, {0, nil, ticks(5), 1, 0, 0, api.ErrNone}, {1000, ticks(5), ticks(4), 1, 0, 0, api.ErrNone}, {0, ticks(5), ticks(6), 1, 0, 0, api.ErrNone},
		{0, ticks(5), ticks(5), 1, 0, 1, api.OK}, {0, ticks(5), ticks(7, 9), 1, 1, 1, api.OK}, {4, ticks(5), ticks(10), 1, 1, 1, api.OK}, {1000, ticks(5), ticks(10), 1, 0, 1, api.OK},
		// replies that overlap, or touch, are no more than one for a call
		{3, ticks(0), ticks(20, 22, 24), 2, 0, 0, api.ErrNone}, {1, ticks(0), ticks(20, 22, 23), 2, 0, 0, api.ErrNone}, {1, ticks(0), ticks(20, 22, 23), 1, 10, 1, api.OK}, {2, ticks(0), ticks(20, 21), 1, 9, 1, api.OK},
		{1, ticks(0, 100), ticks(10, 11, 12, 120), 2, 0, 0, api.ErrNone}, {1, ticks(0, 100), ticks(10, 12, 113), 2, 6, 2, api.OK}, {2, ticks(0, 100), ticks(10, 11, 12, 13, 116), 2, 7, 2, api.OK},
		// of all distances with the most calls the least one
		{0, ticks(0, 100), ticks(10, 20, 110, 120), 2, 5, 2, api.OK}, {0, ticks(0, 100, 200), ticks(10, 20, 120, 220, 210), 1, 0, 0, api.ErrOrder}, {0, ticks(0, 100, 200), ticks(10, 20, 120, 210, 220), 1, 10, 3, api.OK}, {0, ticks(0, 1, 2), ticks(20, 21), 2, 10, 2, api.OK},
		// up to MaxDistance
		{0, ticks(0), ticks(2000000), 1, 1000000, 1, api.OK}, {1, ticks(0), ticks(2000001), 1, 1000000, 1, api.OK}, {0, ticks(0), ticks(2000002), 1, 0, 0, api.ErrNone}, {1000, ticks(0), ticks(2001000), 1, 1000000, 1, api.OK}, {1000, ticks(0), ticks(2001001), 1, 0, 0, api.ErrNone}, {1000, ticks(0, 10000000), ticks(2000990, 2000998, 12001002), 1, 999995, 1, api.OK}, {1000, ticks(0, 10000000), ticks(6, 12001000), 2, 0, 0, api.ErrNone},
		{0, ticks(0, 1000), ticks(50, 5000000, 5001000), 1, 25, 1, api.OK}, // 2500000 would agree with both
	} {
		s := quick(func(s *pulse.Station) { s.Off = x.off })
		same(t, "Ranged", all(i, ranged(s, x.calls, x.replies, x.need)), all(i, all(x.distance, x.n, x.e)))
	}
	r := numbers{9}
	counts := map[int]int{}
	for range 1200 {
		s := r.station(1 + r.below(15))
		s.Off = r.small(6)
		calls, replies := r.ticks(6, 1+r.below(30)), r.ticks(12, 1+r.below(20))
		d, n := rangedOf(s, calls, replies, 1500)
		counts[n]++
		need := 1 + r.below(n+2)
		want := all(0, 0, api.ErrNone)
		if n >= need {
			want = all(d, n, api.OK)
		}
		same(t, "Ranged", all(s, calls, replies, need, ranged(s, calls, replies, need)), all(s, calls, replies, need, want))
		for _, d := range ticks(d, max(0, d-1), d+1, r.below(100)) {
			same(t, "Agreed", all(s, calls, replies, d, agreed(s, calls, replies, d)), all(s, calls, replies, d, all(agreedOf(s, calls, replies, d), api.OK)))
		}
	}
	same(t, "are there all", all(counts[0] > 50, counts[1] > 100, counts[2] > 100, counts[3] > 50, counts[4] > 10), all(true, true, true, true, true))
	// as many calls and replies as there may be
	for _, off := range ticks(0, 1, 50, 1000) {
		s := quick(func(s *pulse.Station) { s.Off = off })
		calls, replies := every(128, 0, 37), every(256, 100, 29)
		d, n := rangedOf(s, calls, replies, 500)
		same(t, "Ranged", all(off, ranged(s, calls, replies, 1)), all(off, all(d, n, api.OK)))
	}
}

func TestTracked(t *testing.T) {
	gate := func(distance, width, memory int) pulse.Gate {
		return pulse.Gate{Distance: distance, Width: width, Memory: memory}
	}
	tens := every(5, 0, 1000)
	for i, x := range []struct {
		off            int
		g              pulse.Gate
		calls, replies []int
		want           []int
	}{
		{0, gate(10, 3, 0), nil, nil, nil}, {0, gate(10, 3, 0), tens, nil, ticks(-1, -1, -1, -1, -1)}, {0, gate(10, 3, 2), tens, nil, ticks(10, 10, -1, -1, -1)}, {0, gate(10, 3, 5), tens, nil, ticks(10, 10, 10, 10, 10)}, {0, gate(10, 3, 4), tens, nil, ticks(10, 10, 10, 10, -1)},
		// at the width, and beside it
		{0, gate(10, 3, 0), ticks(0), ticks(12), ticks(-1)}, {0, gate(10, 3, 0), ticks(0), ticks(14), ticks(7)}, {0, gate(10, 3, 0), ticks(0), ticks(26), ticks(13)}, {0, gate(10, 3, 0), ticks(0), ticks(28), ticks(-1)}, {0, gate(10, 0, 0), ticks(0), ticks(20), ticks(10)}, {0, gate(10, 0, 0), ticks(0), ticks(22), ticks(-1)}, {4, gate(10, 3, 0), ticks(0), ticks(30), ticks(13)}, {4, gate(10, 3, 0), ticks(0), ticks(31), ticks(-1)}, {4, gate(10, 3, 0), ticks(0), ticks(9), ticks(-1)}, {4, gate(10, 3, 0), ticks(0), ticks(10), ticks(7)},
		// the nearest one: the tracked one itself, if the reply may mean it
		{4, gate(10, 3, 0), ticks(0), ticks(20), ticks(10)}, {4, gate(10, 3, 0), ticks(0), ticks(24), ticks(10)}, {4, gate(10, 3, 0), ticks(0), ticks(25), ticks(11)}, {4, gate(10, 3, 0), ticks(0), ticks(16), ticks(10)}, {4, gate(10, 3, 0), ticks(0), ticks(15), ticks(9)},
		// the first reply that is let through counts, though a later one is nearer; one that means nothing is none
		{0, gate(10, 3, 0), ticks(0), ticks(2, 14, 20), ticks(7)}, {0, gate(10, 3, 0), ticks(0), ticks(13, 15, 16, 20), ticks(8)}, {0, gate(10, 3, 0), ticks(0), ticks(15, 17), ticks(-1)}, {0, gate(10, 3, 0), ticks(0), ticks(15, 17, 21, 22), ticks(11)},
		// at the tick of a call, not before it
		{0, gate(0, 3, 0), ticks(5), ticks(5), ticks(0)}, {9, gate(0, 3, 0), ticks(5), ticks(4), ticks(-1)}, {9, gate(2, 3, 0), ticks(5), ticks(4, 5), ticks(2)}, {9, gate(7, 3, 0), ticks(5), ticks(4, 5), ticks(4)}, {3, gate(2, 3, 0), ticks(5), ticks(5), ticks(1)},
		// it moves, and the calls without a reply count from the last one with it
		{0, gate(10, 3, 0), tens, ticks(26, 1032, 2034, 3030, 4024), ticks(13, 16, 17, 15, 12)}, {0, gate(10, 3, 1), tens, ticks(26, 2032, 4034), ticks(13, 13, 16, 16, 17)}, {0, gate(10, 3, 1), tens, ticks(1026, 3032), ticks(10, 13, 13, 16, 16)}, {0, gate(10, 3, 1), tens, ticks(26, 3032, 4032), ticks(13, 13, -1, -1, -1)}, {0, gate(10, 3, 2), tens, ticks(26, 3032), ticks(13, 13, 13, 16, 16)}, {0, gate(0, 3, 0), ticks(0, 1000), ticks(0, 1006), ticks(0, 3)},
		// none stays none, though a later reply may mean what is beside it
		{2, gate(5, 1000, 0), ticks(0, 1000, 2000), ticks(1000, 1500, 2000), ticks(499, 1, 1)}, {2, gate(5, 1000, 0), ticks(0, 10000, 20000), ticks(10000, 20000), ticks(-1, -1, -1)},
	} {
		s := quick(func(s *pulse.Station) { s.Off = x.off })
		same(t, "Tracked", all(i, tracked(s, x.g, x.calls, x.replies)), all(i, all(x.want, api.OK)))
	}
	r := numbers{11}
	lost, found := 0, 0
	for range 4000 {
		s := r.station(1 + r.below(15))
		s.Off = r.small(10)
		g := gate(r.below(100), r.small(30), r.small(5))
		calls, replies := r.ticks(10, 1+r.below(60)), r.ticks(30, 1+r.below(40))
		want := trackedOf(s, g, calls, replies)
		if n := len(want); n > 3 && want[n-1] < 0 {
			lost++
		} else if n > 3 {
			found++
		}
		same(t, "Tracked", all(s, g, calls, replies, tracked(s, g, calls, replies)), all(s, g, calls, replies, all(want, api.OK)))
	}
	same(t, "are there both", all(lost > 500, found > 500), all(true, true))
}

func TestDistanceErrors(t *testing.T) {
	station, calls, replies := argumentOf(stationD, badStations()), argumentOf(calls6, badTicks(128)), argumentOf(replies6, badTicks(256))
	checkErrors(t, "Distance", func(a []any) []any { return distance(a[0].(pulse.Station), a[1].(int), a[2].(int)) }, all(interval(0, 0)), station, argumentOf(200, badTick), argumentOf(350, badTick))
	checkErrors(t, "Agreed", func(a []any) []any { return agreed(a[0].(pulse.Station), a[1].([]int), a[2].([]int), a[3].(int)) }, all(0), station, calls, replies, argumentOf(100, badNumbers(0, 1000000)))
	checkErrors(t, "Ranged", func(a []any) []any { return ranged(a[0].(pulse.Station), a[1].([]int), a[2].([]int), a[3].(int)) }, all(0, 0), station, calls, replies, argumentOf(3, badNumbers(1, 128)))
	checkErrors(t, "Tracked", func(a []any) []any {
		return tracked(a[0].(pulse.Station), a[1].(pulse.Gate), a[2].([]int), a[3].([]int))
	}, all([]int{}), station, argumentOf(pulse.Gate{Distance: 90}, badGates()), calls, replies)
	for _, g := range []pulse.Gate{{}, {Distance: 1000000, Width: 1000, Memory: 128}} {
		same(t, "Tracked", all(g, tracked(stationD, g, ticks(5), nil)[1]), all(g, api.OK))
	}
}
