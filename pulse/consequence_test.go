package pulse_test

import (
	"math"
	"slices"
	"testing"

	"glideslope/api"
	"glideslope/pulse"
)

// The tests of this file are those of P7.5, and of the rules that hold for all functions: P1, memory and determinism.

func TestPulsesAreOnce(t *testing.T) {
	r := numbers{17}
	for range 500 {
		pulses, spacing := r.ticks(256, 1+r.below(20)), 1+r.below(60)
		tolerance := r.below(spacing)
		firsts, _ := pulse.Pairs(pulses, spacing, tolerance)
		alone, e := pulse.Alone(pulses, spacing, tolerance)
		same(t, "how many", all(pulses, spacing, tolerance, 2*len(firsts)+len(alone), e), all(pulses, spacing, tolerance, len(pulses), api.OK))
		for _, p := range slices.Concat(firsts, alone) {
			same(t, "is it one of them", all(p, slices.Contains(pulses, p)), all(p, true))
		}
		for _, p := range firsts {
			same(t, "is it alone", all(p, slices.Contains(alone, p)), all(p, false))
		}
		// no two that are alone would be a pair
		for i, p := range alone {
			for _, q := range alone[i+1:] {
				same(t, "are both alone", all(p, q, q-p < spacing-tolerance || q-p > spacing+tolerance), all(p, q, true))
			}
		}
	}
}

// The pulses of replies that are far enough apart are pairs of their station.
func TestSentArePairs(t *testing.T) {
	r := numbers{19}
	for range 1000 {
		s, calls := r.station(1+r.below(60)), r.ticks(100, 1+r.below(30))
		s.Spacing = 1 + r.below(40)
		s.Dead = 2 * s.Spacing
		s.Gap = 2*s.Spacing + 1 + r.below(100)
		l, e := pulse.Replies(s, calls, 0)
		pulses, _ := pulse.Sent(s, calls, 0)
		same(t, "Pairs", all(s, calls, e, paired(pulses, s.Spacing, 0)), all(s, calls, api.OK, all(l, api.OK)))
	}
}

func TestAnsweredAreApart(t *testing.T) {
	r := numbers{21}
	for range 1000 {
		s, calls := r.station(1+r.below(40)), r.ticks(128, 1+r.below(30))
		l, e := pulse.Answers(s, calls)
		same(t, "Answers", all(len(l), e), all(len(calls), api.OK))
		var answered []int
		reasons := map[string][]int{"dead": nil, "echo": nil, "load": nil}
		for i, a := range l {
			if a.Reason == "" {
				answered = append(answered, calls[i])
				same(t, "a reply", all(a.Reply), all(calls[i]+s.Delay))
				continue
			}
			_, is := reasons[a.Reason]
			same(t, "a reason", all(s, calls, i, a.Reply, is), all(s, calls, i, pulse.None, true))
			reasons[a.Reason] = append(reasons[a.Reason], i)
		}
		for reason, indices := range reasons {
			same(t, "Given", all(s, calls, reason, given(s, calls, reason)), all(s, calls, reason, all(indices, api.OK)))
		}
		for i, call := range answered {
			if i > 0 && call-answered[i-1] <= s.Dead {
				t.Errorf("Answers(%v, %v): %v and %v are both answered", s, calls, answered[i-1], call)
			}
			if i >= s.Most && call-answered[i-s.Most] < s.Window {
				t.Errorf("Answers(%v, %v): more than %v are answered up to %v", s, calls, s.Most, call)
			}
		}
	}
}

func TestNoGapIsLonger(t *testing.T) {
	r := numbers{23}
	count := 0
	for range 3000 {
		s, calls, until := r.station(1+r.below(60)), r.ticks(128, 1+r.below(40)), r.below(4000)
		l, e := pulse.Replies(s, calls, until)
		if e == api.ErrMany {
			continue
		}
		count++
		last := 0
		for _, tick := range append(below(l, until), until) {
			if tick-last > s.Gap {
				t.Errorf("Replies(%v, %v, %v): none from %v to %v", s, calls, until, last, tick)
			}
			last = tick
		}
		same(t, "are they ascending", all(slices.IsSorted(l), len(slices.Compact(l))), all(true, len(l)))
		own, _ := pulse.Squitter(s, calls, until)
		same(t, "Squitter and answers", all(s, calls, until, sortedOf(marksOf(own, answeredOf(s, calls)))), all(s, calls, until, l))
	}
	same(t, "are there any", all(count > 1000), all(true))
}

// below returns the ticks below one.
func below(l []int, until int) []int {
	i, _ := slices.BinarySearch(l, until)
	return slices.Clone(l[:i])
}

func TestTrueDistanceIsMeant(t *testing.T) {
	r := numbers{25}
	for range 5000 {
		s, call, d := r.any(), r.below(90000000), r.below(1000001)
		reply := call + s.Delay + 2*d + r.within(s.Off)
		if reply < 0 {
			continue
		}
		x, e := pulse.Distance(s, call, reply)
		same(t, "Distance", all(s, call, reply, x.Low <= d && d <= x.High, e), all(s, call, reply, true, api.OK))
		// a reply that is off by more does not mean it
		for _, off := range ticks(s.Off+1, -s.Off-1) {
			reply := call + s.Delay + 2*d + off
			x, e := pulse.Distance(s, call, max(0, reply))
			same(t, "Distance", all(s, call, reply, e == api.OK && x.Low <= d && d <= x.High && reply >= 0), all(s, call, reply, false))
		}
	}
}

// answersAmong returns the replies to calls from a distance, off by what they may be, among replies to others.
func (r *numbers) answersAmong(s pulse.Station, calls []int, distance, others int) []int {
	marks := map[int]bool{}
	for _, call := range calls {
		marks[max(call, call+s.Delay+2*distance+r.within(s.Off))] = true
	}
	for range others {
		marks[r.below(100000)] = true
	}
	return sortedOf(marks)
}

func TestTrueDistanceAgrees(t *testing.T) {
	r := numbers{27}
	for range 600 {
		s, calls, d := r.station(1+r.below(200)), r.ticks(60, 1000), r.below(2000)
		if len(calls) == 0 {
			continue
		}
		l := r.answersAmong(s, calls, d, r.below(100))
		same(t, "Agreed", all(s, calls, l, d, agreed(s, calls, l, d)), all(s, calls, l, d, all(len(calls), api.OK)))
		// that all need it is no obstacle
		best, n, e := pulse.Ranged(s, calls, l, len(calls))
		same(t, "Ranged", all(s, calls, l, best <= d, n, e), all(s, calls, l, true, len(calls), api.OK))
		same(t, "Agreed", all(s, calls, l, best, agreed(s, calls, l, best)), all(s, calls, l, best, all(n, api.OK)))
		if len(calls) < 128 {
			same(t, "Ranged by more", all(s, calls, l, ranged(s, calls, l, len(calls)+1)), all(s, calls, l, all(0, 0, api.ErrNone)))
		}
		// a gate about it, by replies to no others, never loses it
		own := r.answersAmong(s, calls[:1], d, 0)
		g := pulse.Gate{Distance: max(0, d-r.below(5)), Width: 5 + s.Off}
		follow, e := pulse.Tracked(s, g, calls[:1], own)
		same(t, "Tracked", all(s, g, len(follow), e, len(follow) == 1 && follow[0] >= d-5-s.Off && follow[0] <= d+s.Off), all(s, g, 1, api.OK, true))
	}
}

// No distance has more calls that agree than the one that is told, and none below it as many.
func TestMostAgree(t *testing.T) {
	r := numbers{29}
	for range 1500 {
		s, calls, l := r.station(1+r.below(30)), r.ticks(20, 1+r.below(60)), r.ticks(60, 1+r.below(30))
		best, n, e := pulse.Ranged(s, calls, l, 1)
		if e != api.OK {
			best, n = 1000001, 0
		}
		for range 20 {
			d := r.below(400)
			m, _ := pulse.Agreed(s, calls, l, d)
			if m > n || m == n && d < best && n > 0 {
				t.Errorf("Ranged(%v, %v, %v): %v with %v, but %v has %v", s, calls, l, best, n, d, m)
			}
		}
	}
}

func TestChannelsAreTuned(t *testing.T) {
	for _, kind := range []byte{'X', 'Y'} {
		for n := 1; n <= 126; n++ {
			l, e := pulse.Channel(n, kind)
			same(t, "Tuned", all(n, kind, e, tuned(l[1], kind)), all(n, kind, api.OK, all(n, api.OK)))
		}
		for f := range 2000 {
			if n, e := pulse.Tuned(f, kind); e == api.OK {
				l, e := pulse.Channel(n, kind)
				same(t, "Channel", all(f, kind, l[1], e), all(f, kind, f, api.OK))
			}
		}
	}
}

// A lamp is lit only where its marker is heard.
func TestLitIsHeard(t *testing.T) {
	r := numbers{31}
	for range 150 {
		m, way := pulse.Marker{Name: "m", From: r.within(5), To: 6 + r.below(5), Keys: ticks(1 + r.below(3))}, r.way(256, 12)
		lit, e := pulse.Lamps([]pulse.Marker{m}, way)
		spans, _ := pulse.Passed([]pulse.Marker{m}, way, "m")
		for tick, s := range lit {
			i := slices.IndexFunc(spans, func(x api.Span) bool { return x.From <= tick && tick < x.To })
			isFirst := i >= 0 && spans[i].From == tick
			same(t, "Lamps", all(m, way, tick, e, s == "m" && i < 0, isFirst && s != "m"), all(m, way, tick, api.OK, false, false))
		}
	}
}

// P1: no function panics, whatever its arguments are.
func TestNoPanics(t *testing.T) {
	ints := []int{math.MinInt, -1000000000, -1, 0, 1, 3, 10000, 100000000, math.MaxInt}
	for _, a := range ints {
		for _, b := range ints {
			lists := [][]int{nil, callsC, {a}, {a, b}, {0, a, b}, make([]int, 100000), every(128, 0, 1), every(256, 0, 390000)}
			for _, s := range []pulse.Station{{}, stationD, least, most, {Spacing: a, Delay: b, Off: a, Dead: b, Echo: a, Most: b, Window: a, Gap: b}, with(stationD, func(s *pulse.Station) { s.Most = a }), with(least, func(s *pulse.Station) { s.Gap = b })} {
				for i, l := range lists {
					noPanic(t, "stations", func() {
						other := lists[len(lists)-1-i]
						pulse.CheckStation(s)
						pulse.Print(s)
						pulse.Answers(s, l)
						pulse.Given(s, l, "load")
						pulse.Squitter(s, l, a)
						pulse.Replies(s, l, b)
						pulse.Load(s, l, a)
						pulse.Sent(s, l, b)
						pulse.Distance(s, a, b)
						pulse.Agreed(s, l, other, a)
						pulse.Ranged(s, other, l, 1)
						pulse.Ranged(s, l, other, b)
						pulse.Tracked(s, pulse.Gate{Distance: a, Width: b, Memory: a}, l, other)
						pulse.Tracked(s, pulse.Gate{Distance: 5, Width: 1000, Memory: 3}, other, l)
					})
				}
			}
			noPanic(t, "pulses, channels and markers", func() {
				for _, l := range lists {
					pulse.Pairs(l, a, b)
					pulse.Alone(l, b, a)
					pulse.Pairs(l, 12, 3)
					for _, m := range [][]pulse.Marker{nil, {outer}, {{Name: "m", From: a, To: b, Keys: l}}, {{Name: "m", From: -5, To: 5, Keys: l}}, {{Name: "m", From: -5, To: 5, Keys: ticks(a, b)}}, make([]pulse.Marker, 1000)} {
						pulse.CheckMarkers(m)
						pulse.Lamps(m, l)
						pulse.Passed(m, l, "m")
						pulse.Passed(m, way9, "")
						pulse.Lamps(m, ticks(a, b))
					}
				}
				pulse.Channel(a, byte(b))
				pulse.Channel(b, 'Y')
				pulse.Tuned(a, byte(b))
				pulse.Tuned(b, 'X')
			})
		}
	}
	r := numbers{33}
	for range 5000 {
		s := make([]byte, r.below(60))
		for i := range s {
			s[i] = []byte{' ', ' ', '\n', '-', '0', '1', byte(r.below(256))}[r.below(7)]
		}
		noPanic(t, "Parse", func() {
			pulse.Parse(string(s))
			pulse.Parse("station 1 2 3 4 5 6 7" + string(s))
		})
	}
}

// Arguments stay as they are, and a result that is changed changes neither an argument nor a later result.
func TestMemory(t *testing.T) {
	// what is behind a list is not written to
	pulses, calls, replies, way := every(256, 3, 7)[:90], every(128, 0, 40)[:30], every(256, 90, 33)[:60], every(256, -20, 1)[:50]
	markers := append(make([]pulse.Marker, 0, 8), manyMarkers(6)...)
	for i := range markers {
		markers[i].Keys = append(make([]int, 0, 16), 2, 1)
	}
	kept := func() string {
		out := shown(pulses[:256], calls[:128], replies[:256], way[:256], markers[:8])
		for _, m := range markers {
			out += shown(m.Keys[:16])
		}
		return out
	}
	before := kept()
	once := func() string {
		firsts, _ := pulse.Pairs(pulses, 14, 0)
		rest, _ := pulse.Alone(pulses, 14, 0)
		l, _ := pulse.Answers(stationD, calls)
		dead, _ := pulse.Given(stationD, calls, "dead")
		own, _ := pulse.Squitter(stationD, calls, 3000)
		every, _ := pulse.Replies(stationD, calls, 3000)
		sent, _ := pulse.Sent(stationD, calls, 3000)
		follow, _ := pulse.Tracked(stationD, pulse.Gate{Distance: 20, Width: 9, Memory: 9}, calls, replies)
		lit, _ := pulse.Lamps(markers, way)
		spans, _ := pulse.Passed(markers, way, "n2")
		text, _ := pulse.Print(stationD)
		same(t, "are there results", all(len(firsts) > 0, len(rest) > 0, len(l), len(dead) > 0, len(own) > 0, len(every) > 0, len(sent) > 0, len(follow), len(lit), len(spans) > 0), all(true, true, 30, true, true, true, true, 30, 50, true))
		out := shown(firsts, rest, l, dead, own, every, sent, follow, lit, spans, text, parsed(text), loaded(stationD, calls, 3000), ranged(stationD, calls, replies, 1), agreed(stationD, calls, replies, 20), channel(3, 'X'))
		for _, x := range [][]int{firsts, rest, dead, own, every, sent, follow} {
			clear(x[:cap(x)])
		}
		clear(l[:cap(l)])
		clear(lit[:cap(lit)])
		clear(spans[:cap(spans)])
		return out
	}
	want := once()
	for range 5 {
		same(t, "results again", all(once()), all(want))
	}
	same(t, "arguments", all(kept()), all(before))
}

// Results do not depend on the order of the maps in which reasons, markers and distances are found.
func TestDeterminism(t *testing.T) {
	markers := append(manyMarkers(7), pulse.Marker{Name: "n3"})
	calls, replies := every(128, 0, 37), every(256, 100, 29)
	var first string
	for i := range 50 {
		s := shown(pulse.CheckMarkers(markers), passed(markers[:7], way9, "n5"), given(stationD, calls, "load"), ranged(stationD, calls, replies, 1), ranged(most, calls, replies, 1))
		if i == 0 {
			first = s
		}
		same(t, "results", all(s), all(first))
	}
}
