package release_test

import (
	"testing"

	"glideslope/api"
	"glideslope/release"
)

// The tests of this file are those of P9.2.

func TestCheckRule(t *testing.T) {
	for i, r := range []release.Rule{ruleS, rule(0, 0, 0, 1), rule(10000, 10000, 10000, 100), rule(0, 0, 10000, 1), rule(10000, 0, 10000, 1), rule(5, 5, 6, 1), rule(6, 5, 6, 1)} {
		same(t, "CheckRule", all(i, release.CheckRule(r)), all(i, api.OK))
	}
	checkErrors(t, "CheckRule", func(a []any) []any { return all(release.CheckRule(a[0].(release.Rule))) }, nil, argumentOf(ruleS, badRules()))
}

// unmet returns moments at one of which conditions do not hold.
func unmet(l []release.Moment, at int, change func(m *release.Moment)) []release.Moment {
	change(&l[at])
	return l
}

func TestSteps(t *testing.T) {
	noClear := func(m *release.Moment) { m.Clear = false }
	noStaff := func(m *release.Moment) { m.Staffed = false }
	noLight := func(m *release.Moment) { m.Lit = false }
	nothing := func(m *release.Moment) { *m = release.Moment{View: m.View} }
	for i, x := range []struct {
		r     release.Rule
		l     []release.Moment
		steps []int
		spans []api.Span
		words [][]string
	}{
		{ruleS, moments4, indices(0, 1, 1, 2, 1, 2, 2, 1, 0), []api.Span{span(3, 4), span(5, 7)}, [][]string{{}, {}, {"clear"}, {}, {"light"}, {}, {}, {}, {}}}, // the chapter's example
		{ruleS, nil, nil, nil, nil},
		// at the limits; a moment changes the step once at most
		{ruleS, moments(800, 799, 600, 599, 999), indices(0, 1, 1, 2, 2), []api.Span{span(3, 5)}, make([][]string, 5)},
		{ruleS, moments(599, 599, 599), indices(1, 2, 2), []api.Span{span(1, 3)}, make([][]string, 3)},
		{ruleS, moments(0, 800, 999, 999, 999), indices(1, 1, 1, 1, 1), nil, make([][]string, 5)},
		// so many moments in succession: what was counted before the last step counts on
		{ruleS, moments(500, 500, 1000, 999, 1000, 1000, 1000), indices(1, 2, 2, 2, 2, 1, 0), []api.Span{span(1, 5)}, make([][]string, 7)},
		{ruleS, moments(700, 1000, 999, 1000, 1000), indices(1, 1, 1, 1, 0), nil, make([][]string, 5)},
		{rule(800, 600, 1000, 1), moments(500, 500, 1000, 1000, 500), indices(1, 2, 1, 0, 1), []api.Span{span(1, 2)}, make([][]string, 5)},
		{rule(800, 600, 1000, 3), moments(500, 500, 1000, 1000, 1000, 1000, 1000), indices(1, 2, 2, 2, 1, 0, 0), []api.Span{span(1, 4)}, make([][]string, 7)},
		{ruleS, unmet(moments(500, 500, 1000, 1000), 2, noClear), indices(1, 2, 1, 0), []api.Span{span(1, 2)}, make([][]string, 4)},
		// it is left at once, and not reached without all conditions
		{ruleS, unmet(moments(500, 500, 700), 2, noStaff), indices(1, 2, 1), []api.Span{span(1, 2)}, make([][]string, 3)},
		{ruleS, unmet(moments(500, 500, 500), 0, nothing), indices(1, 2, 2), []api.Span{span(1, 3)}, [][]string{{"clear", "staff", "light"}, {}, {}}},
		{ruleS, unmet(moments(500, 500, 500), 1, noLight), indices(1, 1, 2), []api.Span{span(2, 3)}, [][]string{{}, {"light"}, {}}},
		{ruleS, unmet(moments(500, 500, 599, 500), 2, nothing), indices(1, 2, 1, 2), []api.Span{span(1, 2), span(3, 4)}, [][]string{{}, {}, {"clear", "staff", "light"}, {}}},
		{ruleS, unmet(moments(500, 500, 600, 500), 2, nothing), indices(1, 2, 1, 2), []api.Span{span(1, 2), span(3, 4)}, make([][]string, 4)},
		{ruleS, unmet(moments(900, 500), 0, nothing), indices(0, 1), nil, make([][]string, 2)},
		{rule(0, 0, 0, 1), moments(0, 0), indices(0, 0), nil, make([][]string, 2)},
		{rule(5, 5, 5, 1), moments(4, 4, 5, 5), indices(1, 2, 1, 0), []api.Span{span(1, 2)}, make([][]string, 4)},
	} {
		same(t, "Steps, Forced, Blocked", all(i, stepped(x.r, x.l), forced(x.r, x.l), blocked(x.r, x.l)), all(i, all(x.steps, api.OK), all(x.spans, api.OK), all(x.words, api.OK)))
	}
	rules, lists := argumentOf(ruleS, badRules()), argumentOf(moments4, badMomentLists())
	checkErrors(t, "Steps", func(a []any) []any { return stepped(a[0].(release.Rule), a[1].([]release.Moment)) }, all(indices()), rules, lists)
	checkErrors(t, "Forced", func(a []any) []any { return forced(a[0].(release.Rule), a[1].([]release.Moment)) }, all([]api.Span{}), rules, lists)
	checkErrors(t, "Blocked", func(a []any) []any { return blocked(a[0].(release.Rule), a[1].([]release.Moment)) }, all([][]string{}), rules, lists)
}

func TestManyMoments(t *testing.T) {
	l := make([]int, 256)
	for i := range l {
		l[i] = 10000 * (i / 128)
	}
	// the second half has 128 moments to leave, of which the 100th one leaves
	steps, spans := make([]int, 256), []api.Span{span(1, 227)}
	for i := range 228 {
		steps[i] = 2
	}
	steps[0], steps[227] = 1, 1
	x := rule(10000, 1, 10000, 100)
	same(t, "Steps, Forced, Blocked", all(stepped(x, moments(l...)), forced(x, moments(l...)), blocked(x, moments(l...))), all(all(steps, api.OK), all(spans, api.OK), all(make([][]string, 256), api.OK)))
}

func TestStepsInOtherWords(t *testing.T) {
	r := numbers{5}
	counts := map[int]int{}
	for range 3000 {
		most := []int{9, 10000}[r.below(2)]
		x := r.rule(most)
		l := r.moments(x, 40, most)
		steps := stepsOf(x, l)
		same(t, "Steps, Forced, Blocked", all(x, l, stepped(x, l), forced(x, l), blocked(x, l)), all(x, l, all(steps, api.OK), all(forcedOf(steps), api.OK), all(blockedOf(x, l), api.OK)))
		for _, step := range steps {
			counts[step]++
		}
	}
	same(t, "are there all", all(counts[0] > 5000, counts[1] > 5000, counts[2] > 5000), all(true, true, true))
}
