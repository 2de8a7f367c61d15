package monitor_test

import (
	"math"
	"slices"
	"testing"

	"glideslope/api"
	"glideslope/monitor"
)

// The tests of this file are those of P6.3.

func least(p monitor.Plant, l []monitor.Failure, limits api.Interval) []any {
	set, e := monitor.Least(p, l, limits)
	return all(set, e)
}

func proved(p monitor.Plant, l []monitor.Failure, limits api.Interval) []any {
	proof, e := monitor.Proof(p, l, limits)
	return all(proof, e)
}

func due(l []monitor.Check, day int) []any {
	names, e := monitor.Due(l, day)
	return all(names, e)
}

func next(l []monitor.Check) []any {
	day, e := monitor.Next(l)
	return all(day, e)
}

func TestExampleSets(t *testing.T) {
	x := interval(-16, 16)
	same(t, "Least", least(plantP, failures, x), all([]int{0, 1}, api.OK))
	same(t, "Proof", proved(plantP, failures, x), all([]int{0, 0, 0, 0}, api.OK))
	same(t, "CheckProof", all(monitor.CheckProof(plantP, failures, x, 2, []int{0, 0, 0, 0})), all(api.OK))
	same(t, "Least of too little", least(plantP, failures, limits), all([]int{}, api.ErrInfeasible))
	same(t, "Proof of too little", proved(plantP, failures, limits), all([]int{}, api.ErrInfeasible))
}

func TestLeast(t *testing.T) {
	near := []string{"near", "near", "near"}
	delays := []int{1, 1, 1}
	f := func(name string, is int, needles ...int) monitor.Failure {
		return monitor.Failure{Name: name, True: is, Needles: needles}
	}
	for i, x := range []struct {
		p     monitor.Plant
		l     []monitor.Failure
		set   []int
		proof []int
		e     api.Errno
	}{
		{ranked(1, near, delays), nil, nil, nil, api.OK}, {ranked(1, near, delays), []monitor.Failure{f("a", 0, 0, 0, 0)}, nil, nil, api.OK}, // nothing is hazardous
		{ranked(1, near, delays), []monitor.Failure{f("a", 1, 0, 0, 0)}, nil, nil, api.ErrInfeasible}, {ranked(1, near, delays), []monitor.Failure{f("a", 0, 0, 0, 0), f("b", 1, 1, 1, 1)}, []int{0}, []int{1}, api.OK},
		{ranked(1, near, delays), []monitor.Failure{f("a", 1, 0, 0, 1)}, []int{2}, []int{0}, api.OK}, {ranked(1, near, delays), []monitor.Failure{f("a", 1, 0, 1, 1)}, []int{1}, []int{0}, api.OK},
		{ranked(1, near, delays), []monitor.Failure{f("a", 1, 1, 1, 0), f("b", 1, 0, 1, 1)}, []int{1}, []int{0}, api.OK},
		{ranked(1, near, delays), []monitor.Failure{f("a", 1, 0, 1, 0), f("b", 1, 1, 0, 1)}, []int{0, 1}, []int{0, 0, 1, 0}, api.OK},
		{ranked(1, near, delays), []monitor.Failure{f("a", 1, 1, 0, 0), f("b", 1, 0, 0, 1)}, []int{0, 2}, []int{0, 1, 0, 0}, api.OK},
		{ranked(1, near, delays), []monitor.Failure{f("a", 1, 1, 0, 0), f("b", 1, 0, 0, 1), f("c", 1, 0, 1, 0)}, []int{0, 1, 2}, []int{0, 1, 0, 0, 1, 2, 0}, api.OK},
		{ranked(2, near, delays), []monitor.Failure{f("a", 1, 0, 1, 1), f("b", 0, 1, 0, 0)}, []int{1, 2}, []int{0, 0, 0, 0}, api.OK},
		{ranked(2, near, delays), []monitor.Failure{f("a", 1, 1, 1, 0), f("b", 1, 1, 0, 1)}, []int{0, 1, 2}, []int{0, 0, 0, 0, 1, 0, 0}, api.OK},
		{ranked(3, near, delays), []monitor.Failure{f("a", 1, 1, 1, 1)}, []int{0, 1, 2}, []int{0, 0, 0, 0, 0, 0, 0}, api.OK}, {ranked(3, near, delays), []monitor.Failure{f("a", 1, 1, 0, 1)}, nil, nil, api.ErrInfeasible},
		{ranked(1, []string{"far", "far", "near"}, delays), []monitor.Failure{f("a", 1, 1, 1, 1)}, []int{2}, []int{0}, api.OK}, {ranked(2, []string{"far", "far", "integral"}, delays), []monitor.Failure{f("a", 1, 1, 1, 1)}, []int{0, 2}, []int{0, 0, 0, 0}, api.OK},
		{ranked(1, []string{"far", "far", "near"}, delays), []monitor.Failure{f("a", 1, 1, 1, 0)}, nil, nil, api.ErrInfeasible}, {ranked(1, []string{"far"}, []int{1}), nil, nil, nil, api.OK},
	} {
		limits := interval(0, 0)
		same(t, "Least", all(i, least(x.p, x.l, limits)), all(i, all(x.set, x.e)))
		same(t, "Proof", all(i, proved(x.p, x.l, limits)), all(i, all(x.proof, x.e)))
		if x.e == api.OK {
			same(t, "CheckProof", all(i, monitor.CheckProof(x.p, x.l, limits, len(x.set), x.proof)), all(i, api.OK))
		}
	}
}

func TestCheckProof(t *testing.T) {
	p := ranked(1, []string{"near", "near", "near"}, []int{1, 1, 1})
	// a is seen by 0, b by 1 and 2, c by all but is not hazardous, d by none
	l := []monitor.Failure{{Name: "a", True: 1, Needles: []int{1, 0, 0}}, {Name: "b", True: 1, Needles: []int{0, 1, 1}}, {Name: "c", Needles: []int{1, 1, 1}}}
	d := monitor.Failure{Name: "d", True: -1, Needles: []int{0, 0, 0}}
	calm := monitor.Failure{Name: "calm", Needles: []int{0, 0, 0}}
	for i, x := range []struct {
		more  []monitor.Failure
		count int
		proof []int
		e     api.Errno
	}{
		{nil, 0, nil, api.OK}, {nil, 1, []int{0}, api.OK}, {nil, 1, []int{1}, api.OK}, {nil, 1, []int{2}, api.ErrProof}, {[]monitor.Failure{calm}, 1, []int{3}, api.ErrProof}, // the empty set
		{nil, 2, []int{0, 1, 0, 0}, api.OK}, {nil, 2, []int{1, 1, 0, 0}, api.OK}, {nil, 2, []int{0, 0, 0, 0}, api.ErrProof}, {nil, 2, []int{0, 1, 1, 0}, api.ErrProof}, {nil, 2, []int{0, 1, 0, 1}, api.ErrProof}, {nil, 2, []int{2, 1, 0, 0}, api.ErrProof},
		{nil, 3, []int{0, 1, 0, 0, 0, 0, 0}, api.ErrProof}, {nil, 3, []int{0, 1, 0, 0, 1, 1, 0}, api.ErrProof}, // 0 and 1 see all
		{[]monitor.Failure{d}, 3, []int{3, 3, 3, 3, 3, 3, 3}, api.OK}, {[]monitor.Failure{d}, 3, []int{0, 1, 0, 0, 3, 3, 0}, api.OK}, {[]monitor.Failure{d}, 3, []int{0, 1, 0, 0, 3, 3, 1}, api.ErrProof}, {[]monitor.Failure{calm}, 2, []int{3, 1, 0, 0}, api.ErrProof},
		{nil, 1, nil, api.ErrShape}, {nil, 0, []int{0}, api.ErrShape}, {nil, 3, []int{0, 0, 0, 0, 0, 0}, api.ErrShape}, {nil, 3, make([]int, 8), api.ErrShape}, {nil, 1, []int{3}, api.ErrUnknown}, {nil, 2, []int{0, 0, 0, 3}, api.ErrUnknown}, {nil, 4, nil, api.ErrRange}, {nil, -1, nil, api.ErrRange},
	} {
		e := monitor.CheckProof(p, append(slices.Clone(l), x.more...), interval(0, 0), x.count, x.proof)
		same(t, "CheckProof", all(i, e), all(i, x.e))
	}
	same(t, "CheckProof without failures", all(monitor.CheckProof(p, nil, limits, 0, nil), monitor.CheckProof(p, nil, limits, 1, []int{0}), monitor.CheckProof(p, nil, limits, 1, nil)), all(api.OK, api.ErrUnknown, api.ErrShape))
}

func TestProofsOfEight(t *testing.T) {
	// each failure is seen by one sensor alone, so that all are needed
	p := monitor.Plant{Need: 1}
	var l []monitor.Failure
	for i := range 8 {
		p.Sensors = append(p.Sensors, monitor.Sensor{Name: nameOf(i), Kind: "near", Delay: 60})
		f := monitor.Failure{Name: nameOf(i), True: 1, Needles: make([]int, 8)}
		f.Needles[i] = 1
		l = append(l, f)
	}
	proof, e := monitor.Proof(p, l, interval(0, 0))
	same(t, "Proof", all(len(proof), e, monitor.CheckProof(p, l, interval(0, 0), 8, proof)), all(255, api.OK, api.OK))
	same(t, "Least", least(p, l, interval(0, 0)), all([]int{0, 1, 2, 3, 4, 5, 6, 7}, api.OK))
	set, expected, _ := leastOf(p, l, interval(0, 0))
	same(t, "Proof and Least", all(proof, set), all(expected, []int{0, 1, 2, 3, 4, 5, 6, 7}))
}

func TestSetsAgainstDefinition(t *testing.T) {
	r := numbers{3}
	counts := map[int]int{}
	for range 1500 {
		far := r.far()
		p := r.plant(far, 6)
		l, x := r.failures(p, far, 5), r.limits(far)
		set, proof, is := leastOf(p, l, x)
		e := api.OK
		if !is {
			e = api.ErrInfeasible
		}
		counts[len(set)]++
		same(t, "Least", all(p, l, x, least(p, l, x)), all(p, l, x, all(set, e)))
		same(t, "Proof", all(p, l, x, proved(p, l, x)), all(p, l, x, all(proof, e)))
		if len(l) == 0 {
			continue
		}
		// a proof that is often right
		count := r.below(len(p.Sensors) + 1)
		any := make([]int, setsBelow(len(p.Sensors), count))
		for k, s := range setsOf(len(p.Sensors))[:len(any)] {
			any[k] = max(0, missedOf(p, l, x, s))
			if r.is(50) {
				any[k] = r.below(len(l))
			}
		}
		e = api.ErrProof
		if isProofOf(p, l, x, any) {
			e = api.OK
			counts[-1]++
		}
		same(t, "CheckProof", all(p, l, x, count, any, monitor.CheckProof(p, l, x, count, any)), all(p, l, x, count, any, e))
	}
	same(t, "are there all", all(counts[0] > 100, counts[1] > 100, counts[2] > 50, counts[3] > 5, counts[-1] > 200, counts[-1] < 1300), all(true, true, true, true, true, true))
}

func TestSetErrors(t *testing.T) {
	aPlant, someFailures, someLimits := argumentOf(plantP, badPlants()), argumentOf(failures, badFailureLists()), argumentOf(interval(-16, 16), badLimits())
	checkErrors(t, "Least", func(a []any) []any {
		return least(a[0].(monitor.Plant), a[1].([]monitor.Failure), a[2].(api.Interval))
	}, all([]int{}), aPlant, someFailures, someLimits)
	checkErrors(t, "Proof", func(a []any) []any {
		return proved(a[0].(monitor.Plant), a[1].([]monitor.Failure), a[2].(api.Interval))
	}, all([]int{}), aPlant, someFailures, someLimits)
	checkErrors(t, "CheckProof", func(a []any) []any {
		return all(monitor.CheckProof(a[0].(monitor.Plant), a[1].([]monitor.Failure), a[2].(api.Interval), a[3].(int), a[4].([]int)))
	}, nil, aPlant, someFailures, someLimits, argumentOf(2, badNumbers(0, 3)), argumentOf([]int{0, 0, 0, 0}, badProofs()))
}

func TestCheckChecks(t *testing.T) {
	extreme := []monitor.Check{{Name: "abcdefghijklmnopqrstuvwx", Every: 10000, Last: 100000}, {Name: "A_9", Every: 1}}
	for _, l := range [][]monitor.Check{nil, checks, extreme, manyChecks(16)} {
		same(t, "CheckChecks", all(l, monitor.CheckChecks(l)), all(l, api.OK))
	}
	for _, x := range badCheckLists() {
		same(t, "CheckChecks", all(x.x, monitor.CheckChecks(x.x)), all(x.x, x.e))
	}
}

func TestDue(t *testing.T) {
	for day, names := range map[int][]string{0: nil, 100: nil, 120: nil, 126: nil, 127: {"far"}, 129: {"far"}, 130: {"near", "far"}, 200000: {"near", "far"}} {
		same(t, "Due", all(day, due(checks, day)), all(day, all(names, api.OK)))
	}
	same(t, "Next", all(next(checks), next(checks[:1]), next(checks[1:])), all(all(127, api.OK), all(130, api.OK), all(127, api.OK)))
	same(t, "Due of none", due(nil, 0), all([]string{}, api.OK))
	same(t, "Next of none", next(nil), all(0, api.ErrEmpty))
	late := []monitor.Check{{Name: "a", Every: 10000, Last: 100000}}
	same(t, "Due late", all(due(late, 109999), due(late, 110000), next(late)), all(all([]string{}, api.OK), all([]string{"a"}, api.OK), all(110000, api.OK)))
	soon := []monitor.Check{{Name: "a", Every: 1}}
	same(t, "Due soon", all(due(soon, 0), due(soon, 1), next(soon)), all(all([]string{}, api.OK), all([]string{"a"}, api.OK), all(1, api.OK)))
}

func TestDueAgainstDefinition(t *testing.T) {
	r := numbers{4}
	for range 3000 {
		l := r.checks(16)
		day := r.below(200001)
		if len(l) > 0 {
			c := l[r.below(len(l))]
			day = max(0, c.Last+c.Every+r.within(2))
		}
		var names []string
		for _, c := range l {
			if day-c.Last >= c.Every {
				names = append(names, c.Name)
			}
		}
		same(t, "Due", all(l, day, due(l, day)), all(l, day, all(names, api.OK)))
		if len(l) == 0 {
			continue
		}
		first, e := monitor.Next(l)
		at, _ := monitor.Due(l, first)
		before, _ := monitor.Due(l, first-1)
		same(t, "Next", all(l, e, len(at) > 0, len(before)), all(l, api.OK, true, 0))
	}
}

func TestDueErrors(t *testing.T) {
	someChecks := argumentOf(checks, badCheckLists())
	checkErrors(t, "Due", func(a []any) []any { return due(a[0].([]monitor.Check), a[1].(int)) }, all([]string{}), someChecks, argumentOf(127, badNumbers(0, 200000)))
	checkErrors(t, "Next", func(a []any) []any { return next(a[0].([]monitor.Check)) }, all(0), someChecks)
	same(t, "Due without checks", all(due(nil, -1), due(nil, 200001), due(nil, math.MinInt)), all(all([]string{}, api.ErrRange), all([]string{}, api.ErrRange), all([]string{}, api.ErrRange)))
}
