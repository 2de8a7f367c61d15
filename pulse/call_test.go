package pulse_test

import (
	"slices"
	"testing"

	"glideslope/api"
	"glideslope/pulse"
)

// The tests of this file are those of P7.1 for stations, pairs and calls.

func TestCheckStation(t *testing.T) {
	for _, s := range []pulse.Station{stationD, least, most} {
		same(t, "CheckStation", all(s, pulse.CheckStation(s)), all(s, api.OK))
		for i, r := range stationRanges {
			for _, n := range r {
				*field(&s, i) = n
				same(t, "CheckStation", all(s, pulse.CheckStation(s)), all(s, api.OK))
			}
		}
	}
	for _, x := range badStations() {
		same(t, "CheckStation", all(x.x, pulse.CheckStation(x.x)), all(x.x, x.e))
	}
}

func TestPairs(t *testing.T) {
	for i, x := range []struct {
		pulses             []int
		spacing, tolerance int
		firsts, alone      []int
	}{
		{ticks(5, 10, 17, 22, 30), 12, 1, ticks(5, 10), ticks(30)}, // the chapter's example
		{nil, 12, 1, nil, nil}, {ticks(7), 1, 0, nil, ticks(7)}, {ticks(0, 1), 1, 0, ticks(0), nil}, {ticks(0, 2), 1, 0, nil, ticks(0, 2)},
		// at the tolerance, and beside it
		{ticks(0, 8), 12, 3, nil, ticks(0, 8)}, {ticks(0, 9), 12, 3, ticks(0), nil}, {ticks(0, 15), 12, 3, ticks(0), nil}, {ticks(0, 16), 12, 3, nil, ticks(0, 16)}, {ticks(0, 1), 12, 11, ticks(0), nil}, {ticks(0, 23), 12, 11, ticks(0), nil}, {ticks(0, 24), 12, 11, nil, ticks(0, 24)},
		// the first one that fits is the partner, also if a later one is nearer to the spacing
		{ticks(0, 5, 9, 10, 11), 10, 1, ticks(0), ticks(5, 10, 11)}, {ticks(0, 9, 10), 10, 1, ticks(0), ticks(10)},
		// a pulse in a pair begins none, and is no partner again
		{ticks(0, 10, 20), 10, 0, ticks(0), ticks(20)}, {ticks(0, 10, 20, 30), 10, 0, ticks(0, 20), nil}, {ticks(0, 1, 10, 11), 10, 1, ticks(0, 1), nil}, {ticks(0, 1, 10), 10, 1, ticks(0), ticks(1)},
		{ticks(0, 3, 6, 9, 12), 6, 3, ticks(0, 6), ticks(12)},
		{ticks(99999000, 100000000), 1000, 0, ticks(99999000), nil}, {ticks(0, 100000000), 1000, 999, nil, ticks(0, 100000000)}, {ticks(0, 1999), 1000, 999, ticks(0), nil},
		{every(256, 0, 1), 128, 0, every(128, 0, 1), nil}, {every(256, 0, 2), 1, 0, nil, every(256, 0, 2)},
	} {
		same(t, "Pairs", all(i, paired(x.pulses, x.spacing, x.tolerance)), all(i, all(x.firsts, api.OK)))
		same(t, "Alone", all(i, alone(x.pulses, x.spacing, x.tolerance)), all(i, all(x.alone, api.OK)))
	}
	r := numbers{1}
	for range 3000 {
		pulses, spacing := r.ticks(256, 1+r.below(20)), 1+r.small(60)
		tolerance := r.small(spacing - 1)
		firsts, rest := pairsOf(pulses, spacing, tolerance)
		same(t, "Pairs", all(pulses, spacing, tolerance, paired(pulses, spacing, tolerance)), all(pulses, spacing, tolerance, all(firsts, api.OK)))
		same(t, "Alone", all(pulses, spacing, tolerance, alone(pulses, spacing, tolerance)), all(pulses, spacing, tolerance, all(rest, api.OK)))
	}
}

func TestPairErrors(t *testing.T) {
	tolerances := append(badNumbers(0, 11), bad[int]{12, api.ErrRange}, bad[int]{999, api.ErrRange})
	arguments := []argument{argumentOf(ticks(5, 10, 17), badTicks(256)), argumentOf(12, badNumbers(1, 1000)), argumentOf(1, tolerances)}
	checkErrors(t, "Pairs", func(a []any) []any { return paired(a[0].([]int), a[1].(int), a[2].(int)) }, all([]int{}), arguments...)
	checkErrors(t, "Alone", func(a []any) []any { return alone(a[0].([]int), a[1].(int), a[2].(int)) }, all([]int{}), arguments...)
	same(t, "tolerance of the spacing 1", all(paired(nil, 1, 0), paired(nil, 1, 1), paired(nil, 1000, 999), paired(nil, 1000, 1000)), all(all([]int{}, api.OK), all([]int{}, api.ErrRange), all([]int{}, api.OK), all([]int{}, api.ErrRange)))
}

// answers returns an answer for each tick of a reply, and for each reason.
func answers(l ...any) []pulse.Answer {
	var out []pulse.Answer
	for _, x := range l {
		switch x := x.(type) {
		case int:
			out = append(out, pulse.Answer{Reply: x})
		case string:
			out = append(out, pulse.Answer{Reply: -1, Reason: x})
		}
	}
	return out
}

func TestExampleAnswers(t *testing.T) {
	undead := with(stationD, func(s *pulse.Station) { s.Dead = 0 })
	same(t, "Answers", answered(stationD, callsC), all(answers(150, "dead", "dead", 250, 350, "load"), api.OK))
	same(t, "Answers without a dead time", answered(undead, callsC), all(answers(150, "echo", 200, 250, "load", "load"), api.OK))
	same(t, "Given", all(given(stationD, callsC, "dead"), given(stationD, callsC, "echo"), given(stationD, callsC, "load")), all(all(ticks(1, 2), api.OK), all([]int{}, api.OK), all(ticks(5), api.OK)))
	same(t, "Given without a dead time", all(given(undead, callsC, "dead"), given(undead, callsC, "echo"), given(undead, callsC, "load")), all(all([]int{}, api.OK), all(ticks(1), api.OK), all(ticks(4, 5), api.OK)))
	same(t, "of no calls", all(answered(stationD, nil), given(stationD, nil, "load")), all(all([]pulse.Answer{}, api.OK), all([]int{}, api.OK)))
}

func TestAnswers(t *testing.T) {
	for i, x := range []struct {
		s     pulse.Station
		calls []int
		want  []pulse.Answer
	}{
		// the dead time goes from the last call that was answered, and includes its end
		{quick(func(s *pulse.Station) { s.Dead = 5 }), ticks(0, 5, 6, 11, 12), answers(0, "dead", 6, "dead", 12)},
		{quick(func(s *pulse.Station) { s.Dead = 0 }), ticks(0, 1, 2), answers(0, 1, 2)},
		{quick(func(s *pulse.Station) { s.Dead, s.Delay = 1, 10000 }), ticks(0, 1, 2, 3, 100000000), answers(10000, "dead", 10002, "dead", 100010000)},
		// the echo time goes from the last call, answered or not
		{quick(func(s *pulse.Station) { s.Echo = 5 }), ticks(0, 5, 10, 15, 21, 26), answers(0, "echo", "echo", "echo", 21, "echo")},
		{quick(func(s *pulse.Station) { s.Echo, s.Dead = 5, 5 }), ticks(0, 5, 10, 16), answers(0, "dead", "echo", 16)},
		{quick(func(s *pulse.Station) { s.Echo, s.Dead = 5, 12 }), ticks(0, 5, 12, 13, 18, 24), answers(0, "dead", "dead", "echo", "echo", 24)},
		// the window before a call does not include its beginning
		{quick(func(s *pulse.Station) { s.Most, s.Window = 1, 10 }), ticks(0, 9, 10, 19, 20), answers(0, "load", 10, "load", 20)},
		{quick(func(s *pulse.Station) { s.Most, s.Window = 2, 10 }), ticks(0, 3, 9, 10, 12, 13, 19, 20), answers(0, 3, "load", 10, "load", 13, "load", 20)},
		{quick(func(s *pulse.Station) { s.Most, s.Window = 1, 1 }), ticks(0, 1, 2), answers(0, 1, 2)},
		// the first reason that applies is told
		{quick(func(s *pulse.Station) { s.Dead, s.Echo, s.Most, s.Window = 5, 5, 1, 6 }), ticks(0, 5, 10), answers(0, "dead", "echo")},
		{quick(func(s *pulse.Station) { s.Dead, s.Echo, s.Most, s.Window = 2, 4, 1, 9 }), ticks(0, 2, 6, 8, 13), answers(0, "dead", "echo", "echo", 13)},
		{quick(func(s *pulse.Station) { s.Dead, s.Echo, s.Most, s.Window = 2, 1, 1, 9 }), ticks(0, 2, 4, 5, 9), answers(0, "dead", "load", "echo", 9)},
		{least, every(128, 0, 1), answersOf(least, every(128, 0, 1))}, {most, every(128, 0, 10001), answersOf(most, every(128, 0, 10001))},
	} {
		same(t, "Answers", all(i, answered(x.s, x.calls)), all(i, all(x.want, api.OK)))
	}
	r := numbers{3}
	count := map[string]int{}
	for range 4000 {
		s := r.station(1 + r.below(40))
		calls := r.ticks(128, 1+r.below(30))
		want := answersOf(s, calls)
		same(t, "Answers", all(s, calls, answered(s, calls)), all(s, calls, all(want, api.OK)))
		for _, reason := range []string{"dead", "echo", "load"} {
			var l []int
			for i, a := range want {
				if a.Reason == reason {
					l = append(l, i)
				}
			}
			count[reason] += len(l)
			same(t, "Given", all(s, calls, reason, given(s, calls, reason)), all(s, calls, reason, all(l, api.OK)))
		}
	}
	same(t, "are there all reasons", all(count["dead"] > 1000, count["echo"] > 1000, count["load"] > 1000), all(true, true, true))
}

func TestAnswerErrors(t *testing.T) {
	arguments := []argument{argumentOf(stationD, badStations()), argumentOf(callsC, badTicks(128))}
	checkErrors(t, "Answers", func(a []any) []any { return answered(a[0].(pulse.Station), a[1].([]int)) }, all([]pulse.Answer{}), arguments...)
	checkErrors(t, "Given", func(a []any) []any { return given(a[0].(pulse.Station), a[1].([]int), a[2].(string)) }, all([]int{}), append(slices.Clone(arguments), argumentOf("dead", badReasons))...)
}
