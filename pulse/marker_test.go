package pulse_test

import (
	"math"
	"strings"
	"testing"

	"glideslope/api"
	"glideslope/pulse"
)

// The tests of this file are those of P7.3.

func TestChannels(t *testing.T) {
	same(t, "Channel", all(channel(17, 'X'), channel(80, 'X'), channel(17, 'Y')), all(all([3]int{1041, 978, 12}, api.OK), all([3]int{1104, 1167, 12}, api.OK), all([3]int{1041, 1104, 36}, api.OK)))
	same(t, "Tuned", all(tuned(978, 'X'), tuned(1104, 'Y'), tuned(1167, 'X')), all(all(17, api.OK), all(17, api.OK), all(80, api.OK)))
	numbers := map[byte]map[int]int{'X': {}, 'Y': {}} // of the channels, by their frequencies of replies
	for n := 1; n <= 126; n++ {
		x, y := [3]int{1024 + n, 961 + n, 12}, [3]int{1024 + n, 1087 + n, 36}
		if n >= 64 {
			x[1], y[1] = 1087+n, 961+n
		}
		same(t, "Channel", all(n, channel(n, 'X'), channel(n, 'Y')), all(n, all(x, api.OK), all(y, api.OK)))
		numbers['X'][x[1]], numbers['Y'][y[1]] = n, n
	}
	for kind, l := range numbers {
		same(t, "are they different", all(len(l)), all(126))
		for f := range 2500 {
			want := all(l[f], api.OK)
			if l[f] == 0 {
				want = all(0, api.ErrNone)
			}
			same(t, "Tuned", all(f, kind, tuned(f, kind)), all(f, kind, want))
		}
		for _, f := range ticks(-1, -978, math.MinInt, math.MaxInt, 1<<32+978, 978-1<<32) {
			same(t, "Tuned", all(f, kind, tuned(f, kind)), all(f, kind, all(0, api.ErrNone)))
		}
	}
	checkErrors(t, "Channel", func(a []any) []any { return channel(a[0].(int), a[1].(byte)) }, all([3]int{}), argumentOf(17, badNumbers(1, 126)), argumentOf(byte('X'), badKinds()))
	for _, f := range ticks(978, 0, -1, math.MaxInt) {
		checkErrors(t, "Tuned", func(a []any) []any { return tuned(f, a[0].(byte)) }, all(0), argumentOf(byte('X'), badKinds()))
	}
}

func TestCheckMarkers(t *testing.T) {
	extreme := []pulse.Marker{{Name: "abcdefghijklmnopqrstuvwx", From: -1000000, To: 1000000, Keys: every(16, 1, 1)}, {Name: "A_9", From: 999999, To: 1000000, Keys: ticks(1000000)}, {Name: "a", From: -1000000, To: -999999, Keys: ticks(1)}}
	for _, l := range [][]pulse.Marker{nil, {outer}, extreme, manyMarkers(8)} {
		same(t, "CheckMarkers", all(l, pulse.CheckMarkers(l)), all(l, api.OK))
	}
	for _, x := range badMarkerLists() {
		same(t, "CheckMarkers", all(x.x, pulse.CheckMarkers(x.x)), all(x.x, x.e))
	}
}

func TestExampleMarkers(t *testing.T) {
	l := []pulse.Marker{outer}
	same(t, "Passed", passed(l, way9, "outer"), all([]api.Span{span(1, 5), span(6, 7)}, api.OK))
	same(t, "Lamps", lamps(l, way9), all([]string{"", "outer", "outer", "", "outer", "", "outer"}, api.OK))
	same(t, "without markers", lamps(nil, way9), all(make([]string, 7), api.OK))
}

func TestLamps(t *testing.T) {
	for i, x := range []struct {
		keys []int
		want string
	}{
		{ticks(1), "+-+-+-+"}, {ticks(3), "+++---+++---+"}, {ticks(2, 1), "++-++-++-"}, {ticks(1, 2), "+--+--+"}, {ticks(1, 2, 3), "+--+++-++---+--"}, {ticks(1, 1, 1, 1), "+-+-+-+-"}, {ticks(1, 1, 2), "+-++-+--+-++"}, {ticks(1000000), strings.Repeat("+", 256)}, {ticks(255, 1000000), strings.Repeat("+", 255) + "-"}, {every(16, 1, 1), "+--+++----+++++------"},
	} {
		l, e := pulse.Lamps([]pulse.Marker{{Name: "m", From: 0, To: 1, Keys: x.keys}}, make([]int, len(x.want)))
		shows := ""
		for _, s := range l {
			shows += map[string]string{"m": "+", "": "-"}[s]
		}
		same(t, "Lamps", all(i, shows, e), all(i, x.want, api.OK))
	}
	// several at once, in their order, each one from its own first tick on
	two := []pulse.Marker{{Name: "z", From: 0, To: 10, Keys: ticks(1, 1)}, {Name: "a", From: 1, To: 9, Keys: ticks(1, 1)}, {Name: "m", From: -5, To: 3, Keys: ticks(3)}}
	same(t, "Lamps", lamps(two, ticks(0, 1, 0, 1, 2, 3, 8, 9, 10, -5, -6, 0)), all([]string{"z m", "a m", "z m", "a", "z", "a", "z", "", "", "m", "", "z m"}, api.OK))
	r := numbers{13}
	for range 500 {
		far := 2 + r.below(20)
		l, way := r.markers(8, far), r.way(120, far)
		same(t, "Lamps", all(l, way, lamps(l, way)), all(l, way, all(lampsOf(l, way), api.OK)))
		for _, m := range l {
			same(t, "Passed", all(l, way, m.Name, passed(l, way, m.Name)), all(l, way, m.Name, all(passedOf(m, way), api.OK)))
		}
	}
}

func TestPassed(t *testing.T) {
	l := []pulse.Marker{{Name: "a", From: -3, To: -1, Keys: ticks(1)}, {Name: "b", From: -1, To: 0, Keys: ticks(1)}, {Name: "c", From: -1000000, To: 1000000, Keys: ticks(1)}}
	way := ticks(-4, -3, -2, -1, 0, -1, -1000000, 1000000, 999999, -3)
	for name, want := range map[string][]api.Span{"a": {span(1, 3), span(9, 10)}, "b": {span(3, 4), span(5, 6)}, "c": {span(0, 7), span(8, 10)}} {
		same(t, "Passed", all(name, passed(l, way, name)), all(name, all(want, api.OK)))
	}
	same(t, "Passed without an end", passed(l, make([]int, 256), "c"), all([]api.Span{span(0, 256)}, api.OK))
	same(t, "Passed by none", passed(l, ticks(0, 5), "a"), all([]api.Span{}, api.OK))
}

func TestMarkerErrors(t *testing.T) {
	unknown := []bad[string]{{"Outer", api.ErrUnknown}, {"outer ", api.ErrUnknown}, {"oute", api.ErrUnknown}, {"b", api.ErrUnknown}}
	for _, s := range badNames {
		unknown = append(unknown, bad[string]{s, api.ErrUnknown})
	}
	arguments := []argument{argumentOf([]pulse.Marker{outer}, badMarkerLists()), argumentOf(way9, badWays()), argumentOf("outer", unknown)}
	checkErrors(t, "Lamps", func(a []any) []any { return lamps(a[0].([]pulse.Marker), a[1].([]int)) }, all([]string{}), arguments[:2]...)
	checkErrors(t, "Passed", func(a []any) []any { return passed(a[0].([]pulse.Marker), a[1].([]int), a[2].(string)) }, all([]api.Span{}), arguments...)
	same(t, "Passed without markers", passed(nil, way9, "outer"), all([]api.Span{}, api.ErrUnknown))
}
