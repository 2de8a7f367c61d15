package monitor_test

import (
	"testing"

	"glideslope/api"
	"glideslope/monitor"
)

// The tests of this file are those of P6.1.

func stated(p monitor.Plant, l []monitor.Second) []any {
	states, e := monitor.States(p, l)
	return all(states, e)
}

func alarmed(p monitor.Plant, l []monitor.Second) []any {
	names, e := monitor.Alarms(p, l)
	return all(names, e)
}

func silent(p monitor.Plant, l []monitor.Second) []any {
	spans, e := monitor.Silent(p, l)
	return all(spans, e)
}

func exposed(p monitor.Plant, l []monitor.Second, needles []int, limits api.Interval) []any {
	n, e := monitor.Exposed(p, l, needles, limits)
	return all(n, e)
}

// state returns a state with its first counts.
func state(mode, left int, counts ...int) monitor.State {
	s := monitor.State{Mode: mode, Left: left}
	copy(s.Counts[:], counts)
	return s
}

// single returns the plant of one sensor with limits of 0.
func single(kind string, delay, silence int) monitor.Plant {
	return monitor.Plant{Sensors: []monitor.Sensor{{Name: "s", Kind: kind, Delay: delay}}, Need: 1, Silence: silence}
}

func TestCheckPlant(t *testing.T) {
	for _, p := range []monitor.Plant{
		plantP, single("far", 60, 60), single("near", 1, 0), {Sensors: manySensors(8), Need: 8, Silence: 60}, {Sensors: manySensors(8), Need: 1},
		{Sensors: []monitor.Sensor{{Name: "abcdefghijklmnopqrstuvwx", Kind: "integral", Limits: interval(-10000, 10000), Delay: 60}, {Name: "Abcdefghijklmnopqrstuvwx", Kind: "near", Limits: interval(10000, 10000), Delay: 1}, {Name: "A_9", Kind: "far", Limits: interval(-10000, -10000), Delay: 1}}, Need: 3},
	} {
		same(t, "CheckPlant", all(p, monitor.CheckPlant(p)), all(p, api.OK))
	}
	for _, x := range badPlants() {
		same(t, "CheckPlant", all(x.x, monitor.CheckPlant(x.x)), all(x.x, x.e))
	}
}

func TestCheckSeconds(t *testing.T) {
	missing := monitor.Second{Readings: []monitor.Reading{{Missing: true}, {Needle: 10000}, {Needle: -10000}}, Command: 3}
	for _, l := range [][]monitor.Second{nil, seconds, manySeconds(256), {missing}, {told(0, 1, 2, 3), told(1, 1, 2, 3), told(2, 1, 2, 3), missing}} {
		same(t, "CheckSeconds", all(l, monitor.CheckSeconds(plantP, l)), all(l, api.OK))
	}
	checkErrors(t, "CheckSeconds", func(a []any) []any {
		return all(monitor.CheckSeconds(a[0].(monitor.Plant), a[1].([]monitor.Second)))
	}, nil, argumentOf(plantP, badPlants()), argumentOf(seconds, badSecondLists()))
}

func TestExampleSeconds(t *testing.T) {
	want := []monitor.State{
		state(monitor.Main, 0), state(monitor.Main, 0, 1, 1, 1), state(monitor.Main, 0, 2, 2), state(monitor.Transfer, 2), state(monitor.Transfer, 1),
		state(monitor.Standby, 0), state(monitor.Standby, 0, 1, 1, 1), state(monitor.Down, 0),
	}
	same(t, "States", stated(plantP, seconds), all(want, api.OK))
	same(t, "Alarms", alarmed(plantP, seconds), all([][]string{{}, {"c"}, {"a"}, {"a", "b"}, {}, {}, {"c"}, {"a", "c"}}, api.OK))
	same(t, "Silent", silent(plantP, seconds), all([]api.Span{span(3, 5), span(7, 8)}, api.OK))
	same(t, "Exposed", exposed(plantP, seconds, needles, limits), all(2, api.OK))
	same(t, "States of none", stated(plantP, nil), all([]monitor.State{}, api.OK))
	same(t, "Alarms of none", alarmed(plantP, nil), all([][]string{}, api.OK))
	same(t, "Silent of none", silent(plantP, nil), all([]api.Span{}, api.OK))
	same(t, "Exposed of none", exposed(plantP, nil, nil, limits), all(0, api.OK))
}

func TestModes(t *testing.T) {
	const m, r, x = monitor.Maintain, monitor.Resume, monitor.Reset
	main, standby, down, maintenance := state(0, 0), state(2, 0), state(3, 0), state(4, 0)
	counting := func(mode, n int) monitor.State { return state(mode, 0, n) }
	none, s := []string{}, []string{"s"}
	for i, c := range []struct {
		p      monitor.Plant
		l      []monitor.Second
		states []monitor.State
		alarms [][]string
		silent []api.Span
	}{
		// at the limits, and beside them
		{with(single("near", 1, 0), func(p *monitor.Plant) { p.Sensors[0].Limits = interval(-3, 5) }), []monitor.Second{read(-3), read(5), read(0), read(6), read(-4)}, []monitor.State{main, main, main, standby, down}, [][]string{none, none, none, s, s}, []api.Span{span(4, 5)}},
		// a transfer of one second, of three, and of none
		{single("near", 1, 1), []monitor.Second{read(1), read(1), read(1), read(1)}, []monitor.State{state(1, 1), standby, down, down}, [][]string{s, none, s, none}, []api.Span{span(0, 1), span(2, 4)}},
		{single("near", 1, 3), []monitor.Second{read(1), read(1), read(0), read(1), read(0)}, []monitor.State{state(1, 3), state(1, 2), state(1, 1), standby, standby}, [][]string{s, none, none, none, none}, []api.Span{span(0, 3)}},
		{single("near", 2, 0), []monitor.Second{read(1), read(1), read(1), read(1)}, []monitor.State{counting(0, 1), standby, counting(2, 1), down}, [][]string{none, s, none, s}, []api.Span{span(3, 4)}},
		// a count begins again
		{single("integral", 3, 0), []monitor.Second{read(1), read(1), read(0), read(1), {Readings: []monitor.Reading{{Missing: true}}}, read(-1)}, []monitor.State{counting(0, 1), counting(0, 2), main, counting(0, 1), counting(0, 2), standby}, [][]string{none, none, none, none, none, s}, nil},
		// what is far counts, and does not vote alone
		{single("far", 2, 0), []monitor.Second{read(1), read(1), read(1), read(0), read(1)}, []monitor.State{counting(0, 1), counting(0, 2), counting(0, 2), main, counting(0, 1)}, [][]string{none, s, s, none, none}, nil},
		// each command in each mode
		{single("near", 2, 2), []monitor.Second{told(r, 1), told(x, 1)}, []monitor.State{counting(0, 1), state(1, 2)}, [][]string{none, s}, []api.Span{span(1, 2)}},
		{single("near", 2, 2), []monitor.Second{read(1), told(m, 1), told(m, 1), told(x, 1), read(1), told(r, 1), read(1)}, []monitor.State{counting(0, 1), maintenance, maintenance, maintenance, maintenance, main, counting(0, 1)}, [][]string{none, none, none, none, none, none, none}, []api.Span{span(1, 5)}},
		{single("near", 1, 3), []monitor.Second{read(1), told(r, 1), told(x, 1), told(m, 1), told(r, 1)}, []monitor.State{state(1, 3), state(1, 2), state(1, 1), maintenance, main}, [][]string{s, none, none, none, none}, []api.Span{span(0, 4)}},
		{single("near", 2, 0), []monitor.Second{read(1), read(1), told(r, 1), told(m, 1), told(r, 0)}, []monitor.State{counting(0, 1), standby, counting(2, 1), maintenance, main}, [][]string{none, s, none, none, none}, []api.Span{span(3, 4)}},
		{single("near", 2, 0), []monitor.Second{read(1), read(1), told(x, 1), told(x, 1), told(r, 1), told(x, 1), read(1)}, []monitor.State{counting(0, 1), standby, counting(2, 1), down, down, main, counting(0, 1)}, [][]string{none, s, none, s, none, none, none}, []api.Span{span(3, 5)}},
		{single("near", 1, 0), []monitor.Second{read(1), read(1), told(m, 1), told(x, 1), told(r, 1), read(0)}, []monitor.State{standby, down, maintenance, maintenance, main, main}, [][]string{s, s, none, none, none, none}, []api.Span{span(1, 4)}},
	} {
		same(t, "States", all(i, stated(c.p, c.l)), all(i, all(c.states, api.OK)))
		same(t, "Alarms", all(i, alarmed(c.p, c.l)), all(i, all(c.alarms, api.OK)))
		same(t, "Silent", all(i, silent(c.p, c.l)), all(i, all(c.silent, api.OK)))
	}
}

func TestVotes(t *testing.T) {
	// of three sensors that are in alarm at once, of the kinds named
	for i, x := range []struct {
		kinds [3]string
		need  int
		reads []int
		mode  int
	}{
		{[3]string{"near", "integral", "far"}, 1, []int{1, 0, 0}, monitor.Standby}, {[3]string{"near", "integral", "far"}, 1, []int{0, 1, 0}, monitor.Standby}, {[3]string{"near", "integral", "far"}, 1, []int{0, 0, 1}, monitor.Main},
		{[3]string{"near", "integral", "far"}, 2, []int{1, 0, 0}, monitor.Main}, {[3]string{"near", "integral", "far"}, 2, []int{1, 0, 1}, monitor.Standby}, {[3]string{"near", "integral", "far"}, 2, []int{1, 1, 0}, monitor.Standby}, {[3]string{"near", "integral", "far"}, 3, []int{1, 1, 0}, monitor.Main}, {[3]string{"near", "integral", "far"}, 3, []int{1, 1, 1}, monitor.Standby},
		{[3]string{"far", "far", "near"}, 2, []int{1, 1, 0}, monitor.Main}, {[3]string{"far", "far", "near"}, 2, []int{1, 1, 1}, monitor.Standby}, {[3]string{"far", "far", "integral"}, 2, []int{0, 1, 1}, monitor.Standby}, {[3]string{"far", "far", "far"}, 1, []int{1, 1, 1}, monitor.Main}, {[3]string{"far", "far", "far"}, 3, []int{1, 1, 1}, monitor.Main},
	} {
		p := monitor.Plant{Need: x.need}
		for k, kind := range x.kinds {
			p.Sensors = append(p.Sensors, monitor.Sensor{Name: nameOf(k), Kind: kind, Delay: 1})
		}
		states, e := monitor.States(p, []monitor.Second{read(x.reads...)})
		same(t, "States after a vote", all(i, states[0].Mode, e), all(i, x.mode, api.OK))
	}
}

func TestExposed(t *testing.T) {
	quiet := []monitor.Second{read(0), read(0), read(0), read(0), read(0), read(0)}
	p := single("near", 1, 2)
	for i, x := range []struct {
		l       []monitor.Second
		needles []int
		limits  api.Interval
		n       int
	}{
		{quiet, []int{0, 0, 0, 0, 0, 0}, interval(0, 0), 0}, {quiet, []int{1, 1, 1, 1, 1, 1}, interval(0, 0), 6}, {quiet, []int{1, -1, 0, 1, 1, 1}, interval(0, 0), 3}, {quiet, []int{1, -1, 9, 0, 1, 1}, interval(0, 0), 3},
		{quiet, []int{-3, 5, -3, 5, -3, 5}, interval(-3, 5), 0}, {quiet, []int{-4, 5, 6, -4, -3, 5}, interval(-3, 5), 2}, {quiet, []int{10000, -10000, 10000, -10000, 9999, -10000}, interval(-9999, 9999), 4}, {quiet, []int{0, 0, 0, 0, 0, 0}, interval(1, 2), 6},
		{[]monitor.Second{read(0), read(1), read(0), read(0), read(0), read(0)}, []int{9, 9, 9, 9, 9, 9}, interval(0, 0), 3}, {[]monitor.Second{read(0), read(0), read(1), read(1), read(1), read(1)}, []int{9, 9, 9, 9, 9, 9}, interval(0, 0), 2}, // not in a transfer, and not when it is down
		{[]monitor.Second{read(0), told(monitor.Maintain, 0), told(monitor.Resume, 0), read(0), read(0), told(monitor.Maintain, 0)}, []int{9, 9, 9, 9, 9, 9}, interval(0, 0), 3},
		{[]monitor.Second{read(1)}, []int{9}, interval(0, 0), 0}, {[]monitor.Second{read(0)}, []int{9}, interval(0, 0), 1},
	} {
		same(t, "Exposed", all(i, exposed(p, x.l, x.needles, x.limits)), all(i, all(x.n, api.OK)))
	}
}

func TestSecondsAgainstDefinition(t *testing.T) {
	r := numbers{1}
	modes := map[int]int{}
	for i := range 6000 {
		far, most := r.far(), 60
		if i%100 == 0 {
			most = 256
		}
		p := r.plant(far, 8)
		l := r.seconds(p, far, most)
		var states []monitor.State
		var alarms [][]string
		for _, s := range statesOf(p, l) {
			states, alarms = append(states, s.state), append(alarms, s.alarms)
			modes[s.state.Mode]++
		}
		needles, x := r.row(far, len(l)), r.limits(far)
		same(t, "States", all(p, l, stated(p, l)), all(p, l, all(states, api.OK)))
		same(t, "Alarms", all(p, l, alarmed(p, l)), all(p, l, all(alarms, api.OK)))
		same(t, "Silent", all(p, l, silent(p, l)), all(p, l, all(silentOf(p, l), api.OK)))
		same(t, "Exposed", all(p, l, needles, x, exposed(p, l, needles, x)), all(p, l, needles, x, all(exposedOf(p, l, needles, x), api.OK)))
	}
	for mode := range 5 {
		same(t, "are there all modes", all(mode, modes[mode] > 3000), all(mode, true))
	}
}

func TestSecondErrors(t *testing.T) {
	aPlant, someSeconds := argumentOf(plantP, badPlants()), argumentOf(seconds, badSecondLists())
	checkErrors(t, "States", func(a []any) []any { return stated(a[0].(monitor.Plant), a[1].([]monitor.Second)) }, all([]monitor.State{}), aPlant, someSeconds)
	checkErrors(t, "Alarms", func(a []any) []any { return alarmed(a[0].(monitor.Plant), a[1].([]monitor.Second)) }, all([][]string{}), aPlant, someSeconds)
	checkErrors(t, "Silent", func(a []any) []any { return silent(a[0].(monitor.Plant), a[1].([]monitor.Second)) }, all([]api.Span{}), aPlant, someSeconds)
	checkErrors(t, "Exposed", func(a []any) []any {
		return exposed(a[0].(monitor.Plant), a[1].([]monitor.Second), a[2].([]int), a[3].(api.Interval))
	}, all(0), aPlant, someSeconds, argumentOf(needles, badRows(8)), argumentOf(limits, badLimits()))
}
