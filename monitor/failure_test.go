package monitor_test

import (
	"testing"

	"glideslope/api"
	"glideslope/monitor"
)

// The tests of this file are those of P6.2.

func seen(p monitor.Plant, f monitor.Failure) []any {
	is, after, e := monitor.Seen(p, f)
	return all(is, after, e)
}

func hidden(p monitor.Plant, l []monitor.Failure, limits api.Interval) []any {
	names, e := monitor.Hidden(p, l, limits)
	return all(names, e)
}

func paired(p monitor.Plant, l []monitor.Failure, limits api.Interval) []any {
	names, e := monitor.Pairs(p, l, limits)
	return all(names, e)
}

func needless(p monitor.Plant, l []monitor.Failure, limits api.Interval) []any {
	names, e := monitor.Needless(p, l, limits)
	return all(names, e)
}

func worst(p monitor.Plant, l []monitor.Failure, limits api.Interval) []any {
	n, e := monitor.Worst(p, l, limits)
	return all(n, e)
}

func risked(p monitor.Plant, l []monitor.Failure, limits api.Interval, period int) []any {
	n, e := monitor.Risk(p, l, limits, period)
	return all(n, e)
}

func TestCheckFailures(t *testing.T) {
	extreme := []monitor.Failure{{Name: "abcdefghijklmnopqrstuvwx", True: 10000, Needles: []int{10000, -10000, 0}, Rate: 1000}, {Name: "A_9", True: -10000, Needles: []int{-10000, 10000, 0}}}
	for _, l := range [][]monitor.Failure{nil, failures, extreme, manyFailures(8)} {
		same(t, "CheckFailures", all(l, monitor.CheckFailures(plantP, l)), all(l, api.OK))
	}
	checkErrors(t, "CheckFailures", func(a []any) []any {
		return all(monitor.CheckFailures(a[0].(monitor.Plant), a[1].([]monitor.Failure)))
	}, nil, argumentOf(plantP, badPlants()), argumentOf(failures, badFailureLists()))
}

func TestExampleFailures(t *testing.T) {
	same(t, "Seen", all(seen(plantP, feed), seen(plantP, phase), seen(plantP, wire), seen(plantP, gain)), all(all(true, 2, api.OK), all(false, 0, api.OK), all(false, 0, api.OK), all(false, 0, api.OK)))
	together := monitor.Failure{Name: "together", True: 23, Needles: []int{13, 23, 23}}
	same(t, "Seen of phase and gain together", seen(plantP, together), all(true, 2, api.OK))
	same(t, "Hidden", hidden(plantP, failures, limits), all([]string{"phase"}, api.OK))
	same(t, "Pairs", paired(plantP, failures, limits), all([][2]string{{"phase", "wire"}}, api.OK))
	same(t, "Worst", worst(plantP, failures, limits), all(2, api.OK))
	same(t, "Risk", risked(plantP, failures, limits, 10), all(20100, api.OK))
	same(t, "Needless", all(needless(plantP, failures, limits), needless(plantP, failures, interval(-30, 30))), all(all([]string{}, api.OK), all([]string{"feed"}, api.OK)))
	same(t, "of no failures", all(hidden(plantP, nil, limits), paired(plantP, nil, limits), needless(plantP, nil, limits), worst(plantP, nil, limits), risked(plantP, nil, limits, 10000)), all(all([]string{}, api.OK), all([][2]string{}, api.OK), all([]string{}, api.OK), all(0, api.ErrNone), all(0, api.OK)))
}

// ranked returns the plant of sensors with limits of 0 and with kinds and delays.
func ranked(need int, kinds []string, delays []int) monitor.Plant {
	p := monitor.Plant{Need: need}
	for i, kind := range kinds {
		p.Sensors = append(p.Sensors, monitor.Sensor{Name: nameOf(i), Kind: kind, Delay: delays[i]})
	}
	return p
}

func TestSeen(t *testing.T) {
	mixed := []string{"near", "far", "integral", "far"}
	for i, x := range []struct {
		p       monitor.Plant
		needles []int
		is      bool
		after   int
	}{
		{ranked(1, mixed, []int{60, 1, 40, 2}), []int{1, 1, 1, 1}, true, 40}, {ranked(1, mixed, []int{60, 1, 40, 2}), []int{1, 1, 0, 1}, true, 60}, {ranked(1, mixed, []int{60, 1, 40, 2}), []int{0, 1, 0, 1}, false, 0}, {ranked(1, mixed, []int{60, 1, 40, 2}), []int{0, 0, 0, 0}, false, 0},
		{ranked(2, mixed, []int{6, 9, 4, 12}), []int{1, 1, 1, 1}, true, 6}, {ranked(3, mixed, []int{6, 9, 4, 12}), []int{1, 1, 1, 1}, true, 9}, {ranked(4, mixed, []int{6, 9, 4, 12}), []int{1, 1, 1, 1}, true, 12}, {ranked(4, mixed, []int{6, 9, 4, 12}), []int{1, 1, 0, 1}, false, 0},
		{ranked(2, mixed, []int{6, 9, 4, 12}), []int{0, 1, 1, 0}, true, 9}, {ranked(2, mixed, []int{6, 9, 4, 12}), []int{0, 1, 0, 1}, false, 0}, {ranked(2, mixed, []int{6, 9, 4, 12}), []int{0, 0, 1, 0}, false, 0}, {ranked(2, mixed, []int{6, 2, 40, 3}), []int{0, 1, 1, 1}, true, 40}, // far ones wait for one that is not
		{ranked(3, mixed, []int{5, 5, 5, 5}), []int{1, -1, 1, 0}, true, 5}, {ranked(1, mixed[:1], []int{1}), []int{-10000}, true, 1}, {ranked(1, mixed[1:2], []int{1}), []int{10000}, false, 0},
	} {
		f := monitor.Failure{Name: "f", Needles: x.needles}
		same(t, "Seen", all(i, seen(x.p, f)), all(i, all(x.is, x.after, api.OK)))
	}
	// at the limits, and beside them
	for n, is := range map[int]bool{-11: true, -10: false, 0: false, 10: false, 11: true} {
		f := monitor.Failure{Name: "f", Needles: []int{n, n, 0}}
		same(t, "Seen at the limits", all(n, seen(plantP, f)[0]), all(n, is))
	}
}

func TestHazards(t *testing.T) {
	// what is hazardous lies beside the limits, not at them
	p := ranked(1, []string{"near"}, []int{7})
	l := []monitor.Failure{{Name: "low", True: -6, Needles: []int{1}}, {Name: "at", True: -5, Needles: []int{1}}, {Name: "on", True: 3, Needles: []int{1}}, {Name: "high", True: 4, Needles: []int{0}}, {Name: "no", True: 0, Needles: []int{0}}}
	x := interval(-5, 3)
	same(t, "by limits", all(hidden(p, l, x), needless(p, l, x), worst(p, l, x)), all(all([]string{"high"}, api.OK), all([]string{"at", "on"}, api.OK), all(7, api.OK)))
	same(t, "Worst without any that is seen", all(worst(p, l[1:], x), worst(p, l[3:], x), worst(p, l[1:3], x)), all(all(0, api.ErrNone), all(0, api.ErrNone), all(0, api.ErrNone)))
	same(t, "Worst of several", worst(ranked(1, []string{"near", "near"}, []int{3, 9}), []monitor.Failure{{Name: "a", True: 1, Needles: []int{1, 1}}, {Name: "b", True: 1, Needles: []int{0, 1}}, {Name: "c", True: 1, Needles: []int{1, 0}}}, interval(0, 0)), all(9, api.OK))
}

func TestPairs(t *testing.T) {
	p := ranked(2, []string{"near", "near"}, []int{1, 1})
	x := interval(-2, 2)
	f := func(name string, is int, needles ...int) monitor.Failure {
		return monitor.Failure{Name: name, True: is, Needles: needles, Rate: 7}
	}
	for i, c := range []struct {
		l     []monitor.Failure
		pairs [][2]string
		risk  int
	}{
		{[]monitor.Failure{f("a", 2, 0, 0), f("b", 1, 0, 0)}, [][2]string{{"a", "b"}}, 49}, {[]monitor.Failure{f("b", -1, 0, 0), f("a", -2, 0, 0)}, [][2]string{{"b", "a"}}, 49}, // not hazardous alone
		{[]monitor.Failure{f("a", 2, 0, 0), f("b", -1, 0, 0)}, nil, 0}, {[]monitor.Failure{f("a", 9, 0, 0), f("b", -9, 0, 0)}, nil, 14000}, // not hazardous together
		{[]monitor.Failure{f("a", 9, 0, 0), f("b", 9, 0, 0)}, [][2]string{{"a", "b"}}, 14049},
		{[]monitor.Failure{f("a", 2, 1, 0), f("b", 2, 0, 1)}, nil, 0}, // seen together
		{[]monitor.Failure{f("a", 2, 1, 0), f("b", 2, 1, 0)}, [][2]string{{"a", "b"}}, 49},
		{[]monitor.Failure{f("a", 2, 1, 1), f("b", 2, -1, -1)}, nil, 0}, {[]monitor.Failure{f("a", 2, 1, 1), f("b", 2, 0, -1)}, nil, 0}, {[]monitor.Failure{f("a", 2, 0, -1), f("b", 2, 1, 1)}, nil, 0}, // one is seen alone
		{[]monitor.Failure{f("a", 2, 1, 0), f("b", 2, -1, 0)}, [][2]string{{"a", "b"}}, 49},
		{[]monitor.Failure{f("c", 2, 0, 0), f("a", 2, 0, 0), f("b", 2, 0, 0)}, [][2]string{{"c", "a"}, {"c", "b"}, {"a", "b"}}, 147},
		{[]monitor.Failure{f("c", 1, 0, 0), f("s", 1, 1, 1), f("a", 1, 0, 0), f("b", 2, 0, 0)}, [][2]string{{"c", "b"}, {"a", "b"}}, 98},
		{[]monitor.Failure{f("a", 10000, 0, 0), f("b", 10000, 0, 0)}, [][2]string{{"a", "b"}}, 14049},
	} {
		same(t, "Pairs", all(i, paired(p, c.l, x)), all(i, all(c.pairs, api.OK)))
		same(t, "Risk", all(i, risked(p, c.l, x, 1), risked(p, c.l, x, 0), risked(p, c.l, x, 10000)), all(i, all(c.risk, api.OK), all(0, api.OK), all(10000*c.risk, api.OK)))
	}
	// sums beyond the range of needles, of a plant that sees nothing within it
	wide := monitor.Plant{Sensors: []monitor.Sensor{{Name: "s", Kind: "near", Limits: interval(-10000, 10000), Delay: 1}}, Need: 1}
	far := []monitor.Failure{f("a", 10000, 10000), f("b", 10000, 1), f("c", 1, -10000), f("d", 10000, 0)}
	same(t, "Pairs far away", paired(wide, far, interval(-10000, 10000)), all([][2]string{{"a", "c"}, {"a", "d"}, {"b", "c"}, {"b", "d"}, {"c", "d"}}, api.OK))
}

func TestGreatestRisk(t *testing.T) {
	p := ranked(1, []string{"far"}, []int{1})
	var l []monitor.Failure
	for i := range 8 {
		l = append(l, monitor.Failure{Name: nameOf(i), True: 10000, Needles: []int{10000}, Rate: 1000})
	}
	same(t, "Risk", risked(p, l, limits, 10000), all(360000000000, api.OK))
}

func TestFailuresAgainstDefinition(t *testing.T) {
	r := numbers{2}
	counts := map[string]int{}
	for range 6000 {
		far := r.far()
		p := r.plant(far, 8)
		l, x, period := r.failures(p, far, 8), r.limits(far), r.below(10001)
		later := 0
		for _, f := range l {
			after := seenByAll(p, f)
			same(t, "Seen", all(p, f, seen(p, f)), all(p, f, all(after > 0, after, api.OK)))
			if isOutside(f.True, x) {
				later = max(later, after)
			}
		}
		none := api.OK
		if later == 0 {
			none = api.ErrNone
		}
		unseen, idle := namesOf(p, l, x, true, false), namesOf(p, l, x, false, true)
		var pairs [][2]string
		for _, k := range pairsOf(p, l, x) {
			pairs = append(pairs, [2]string{l[k[0]].Name, l[k[1]].Name})
		}
		counts["hidden"] += len(unseen)
		counts["needless"] += len(idle)
		counts["pairs"] += len(pairs)
		counts["later"] += min(1, later)
		same(t, "Hidden", all(p, l, x, hidden(p, l, x)), all(p, l, x, all(unseen, api.OK)))
		same(t, "Pairs", all(p, l, x, paired(p, l, x)), all(p, l, x, all(pairs, api.OK)))
		same(t, "Needless", all(p, l, x, needless(p, l, x)), all(p, l, x, all(idle, api.OK)))
		same(t, "Worst", all(p, l, x, worst(p, l, x)), all(p, l, x, all(later, none)))
		same(t, "Risk", all(p, l, x, period, risked(p, l, x, period)), all(p, l, x, period, all(riskOf(p, l, x, period), api.OK)))
	}
	for _, what := range []string{"hidden", "needless", "pairs", "later"} {
		same(t, "are there all", all(what, counts[what] > 1000), all(what, true))
	}
}

func TestFailureErrors(t *testing.T) {
	aPlant, someFailures, someLimits := argumentOf(plantP, badPlants()), argumentOf(failures, badFailureLists()), argumentOf(limits, badLimits())
	checkErrors(t, "Seen", func(a []any) []any { return seen(a[0].(monitor.Plant), a[1].(monitor.Failure)) }, all(false, 0), aPlant, argumentOf(feed, badFailures()))
	for _, x := range []struct {
		what    string
		call    func(p monitor.Plant, l []monitor.Failure, limits api.Interval) []any
		nothing any
	}{{"Hidden", hidden, []string{}}, {"Pairs", paired, [][2]string{}}, {"Needless", needless, []string{}}, {"Worst", worst, 0}} {
		checkErrors(t, x.what, func(a []any) []any {
			return x.call(a[0].(monitor.Plant), a[1].([]monitor.Failure), a[2].(api.Interval))
		}, all(x.nothing), aPlant, someFailures, someLimits)
	}
	checkErrors(t, "Risk", func(a []any) []any {
		return risked(a[0].(monitor.Plant), a[1].([]monitor.Failure), a[2].(api.Interval), a[3].(int))
	}, all(0), aPlant, someFailures, someLimits, argumentOf(10, badNumbers(0, 10000)))
}
