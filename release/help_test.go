package release_test

import (
	"fmt"
	"slices"
	"sort"
	"strings"
	"testing"

	"glideslope/api"
	"glideslope/release"
)

// shown writes values so that all that is different looks different, but for nil and empty lists.
func shown(l ...any) string {
	return strings.ReplaceAll(fmt.Sprintf("%#v", l), "(nil)", "{}")
}

// same compares results with the expected ones.
func same(t *testing.T, what string, got, want []any) {
	t.Helper()
	if g, w := shown(got...), shown(want...); g != w {
		t.Errorf("%s:\n got %s\nwant %s", what, g, w)
	}
}

// all is its arguments as a list: the results of a call.
func all(l ...any) []any { return l }

// noPanic fails the test if a function panics.
func noPanic(t *testing.T, what string, f func()) {
	t.Helper()
	defer func() {
		if x := recover(); x != nil {
			t.Errorf("%s panics: %v", what, x)
		}
	}()
	f()
}

// with returns a value after a change.
func with[T any](x T, change func(x *T)) T {
	change(&x)
	return x
}

// indices and words are their arguments as lists.
func indices(l ...int) []int { return l }

func words(l ...string) []string { return l }

func span(from, to int) api.Span { return api.Span{From: from, To: to} }

// weather returns a weather with its views and its ceiling.
func weather(a, b, c, ceiling int) release.Weather {
	return release.Weather{Views: [3]int{a, b, c}, Ceiling: ceiling}
}

// equipment returns equipment without standby, supplied one with it.
func equipment(signal, lights, seconds int) release.Equipment {
	return release.Equipment{Signal: signal, Lights: lights, Switch: seconds}
}

func supplied(signal, lights, seconds int) release.Equipment {
	return release.Equipment{Signal: signal, Lights: lights, Switch: seconds, Standby: true}
}

// moments returns moments with these views at which all conditions hold.
func moments(views ...int) []release.Moment {
	var out []release.Moment
	for _, view := range views {
		out = append(out, release.Moment{View: view, Clear: true, Staffed: true, Lit: true})
	}
	return out
}

// rule returns a rule.
func rule(prepare, enter, leave, n int) release.Rule {
	return release.Rule{Prepare: prepare, Enter: enter, Leave: leave, Moments: n}
}

// notice returns a notice.
func notice(number int, runway string, issued, from, until, category int) release.Notice {
	return release.Notice{Number: number, Runway: runway, Issued: issued, From: from, Until: until, Category: category}
}

// change returns a change.
func change(runway string, tick, category int) release.Change {
	return release.Change{Runway: runway, Tick: tick, Category: category}
}

// work returns a work.
func work(name, runway string, time, worth int) release.Work {
	return release.Work{Name: name, Runway: runway, Time: time, Worth: worth}
}

// The values of the chapter's examples.
var (
	runwayR = release.Runway{
		Name:   "r9",
		Minima: [3]release.Weather{weather(550, 400, 200, 60), weather(300, 150, 0, 30), weather(75, 50, 0, 0)},
		Needs:  [3]release.Equipment{equipment(1, 1, 15), equipment(2, 2, 5), supplied(3, 3, 1)},
	}
	ruleS    = rule(800, 600, 1000, 2)
	moments4 = with(moments(900, 700, 500, 500, 500, 500, 1100, 1100, 1100), func(l *[]release.Moment) {
		(*l)[2].Clear = false
		(*l)[4].Lit = false
	})
	noticesN = []release.Notice{notice(7, "r9", 100, 160, 400, 1), notice(8, "r9", 150, 300, 500, 0)}
	change6  = change("r9", 160, 1)
	works7   = []release.Work{work("lamp", "r9", 3, 40), work("paint", "r9", 4, 50), work("sweep", "r2", 5, 60)}
)

// The following functions return all results of a call.

func needed(r release.Runway, w release.Weather) []any {
	n, e := release.Needed(r, w)
	return all(n, e)
}

func capable(r release.Runway, x release.Equipment) []any {
	n, e := release.Capable(r, x)
	return all(n, e)
}

func permitted(r release.Runway, w release.Weather, x release.Equipment, limits [2]int) []any {
	n, reasons, e := release.Permitted(r, w, x, limits)
	return all(n, reasons, e)
}

func stepped(r release.Rule, l []release.Moment) []any {
	steps, e := release.Steps(r, l)
	return all(steps, e)
}

func forced(r release.Rule, l []release.Moment) []any {
	spans, e := release.Forced(r, l)
	return all(spans, e)
}

func blocked(r release.Rule, l []release.Moment) []any {
	reasons, e := release.Blocked(r, l)
	return all(reasons, e)
}

func fielded(n release.Notice) []any {
	f, e := release.Fields(n)
	return all(f, e)
}

func read(f [6]string) []any {
	n, e := release.Read(f)
	return all(n, e)
}

func left(l []release.Notice, runway string, most, tick int) []any {
	n, e := release.Category(l, runway, most, tick)
	return all(n, e)
}

func unannounced(changes []release.Change, l []release.Notice, ahead int) []any {
	out, e := release.Unannounced(changes, l, ahead)
	return all(out, e)
}

func drafted(c release.Change, number, ahead, until int) []any {
	n, e := release.Drafted(c, number, ahead, until)
	return all(n, e)
}

func best(l []release.Work, length int) []any {
	works, worth, e := release.Night(l, length)
	return all(works, worth, e)
}

func bounded(l []release.Work, length, price int) []any {
	n, e := release.Bound(l, length, price)
	return all(n, e)
}

// numbers is a row of numbers that look random, and are the same in each run.
type numbers struct{ x uint64 }

func (r *numbers) below(n int) int {
	r.x = r.x*6364136223846793005 + 1442695040888963407
	return int((r.x >> 33) % uint64(n))
}

// upTo returns a number from 0 to most, often one of both.
func (r *numbers) upTo(most int) int {
	switch r.below(8) {
	case 0:
		return 0
	case 1:
		return most
	}
	return r.below(most + 1)
}

func (r *numbers) is(part int) bool { return r.below(part) == 0 }

// descending returns three numbers from most to 0, of which none is above the one before it, ascending those the other way round.
func (r *numbers) descending(most int) [3]int {
	l := r.ascending(most)
	slices.Reverse(l[:])
	return l
}

func (r *numbers) ascending(most int) [3]int {
	l := [3]int{r.upTo(most), r.upTo(most), r.upTo(most)}
	sort.Ints(l[:])
	return l
}

// runway returns a runway whose views and ceilings are at most this one.
func (r *numbers) runway(most int) release.Runway {
	out := release.Runway{Name: "r1"}
	for k := range 3 {
		for i, view := range r.descending(most) {
			out.Minima[i].Views[k] = view
		}
	}
	ceilings, signals, lights, seconds, from := r.descending(most), r.ascending(3), r.ascending(3), r.descending(60), r.below(4)
	for i := range 3 {
		out.Minima[i].Ceiling = ceilings[i]
		out.Needs[i] = release.Equipment{Signal: signals[i], Lights: lights[i], Switch: seconds[i], Standby: i >= from}
	}
	return out
}

// weather returns a weather, often one that is close to minima of a runway.
func (r *numbers) weather(x release.Runway, most int) release.Weather {
	if r.is(4) {
		return weather(r.upTo(most), r.upTo(most), r.upTo(most), r.upTo(most))
	}
	w := x.Minima[r.below(3)]
	close := func(n int) int { return min(most, max(0, n+[]int{0, 0, 0, 0, 1, most, -1}[r.below(7)])) }
	return weather(close(w.Views[0]), close(w.Views[1]), close(w.Views[2]), close(w.Ceiling))
}

// equipment returns equipment, often one that is close to what a runway needs.
func (r *numbers) equipment(x release.Runway) release.Equipment {
	if r.is(4) {
		return release.Equipment{Signal: r.below(4), Lights: r.below(4), Switch: r.upTo(60), Standby: r.is(2)}
	}
	out := x.Needs[r.below(3)]
	close := func(n, most int) int { return min(most, max(0, n+[]int{0, 0, 0, 1, -1}[r.below(5)])) }
	return release.Equipment{Signal: close(out.Signal, 3), Lights: close(out.Lights, 3), Switch: close(out.Switch, 60), Standby: out.Standby != r.is(5)}
}

// rule returns a rule with views up to most, and few moments.
func (r *numbers) rule(most int) release.Rule {
	views := r.ascending(most)
	return rule(views[1], views[0], views[2], 1+r.below(4))
}

// moments returns up to n moments whose views are about those of a rule; the conditions hold often.
func (r *numbers) moments(x release.Rule, n, most int) []release.Moment {
	var out []release.Moment
	for range r.below(n + 1) {
		view := r.upTo(most)
		if !r.is(3) {
			view = []int{x.Prepare, x.Enter, x.Leave}[r.below(3)] - r.below(2)
		}
		out = append(out, release.Moment{View: min(most, max(0, view)), Clear: !r.is(6), Staffed: !r.is(6), Lit: !r.is(6)})
	}
	return out
}

// name returns one of few names.
func (r *numbers) name() string { return []string{"r1", "r2", "R1"}[r.below(3)] }

// notices returns up to n notices of few runways with ticks below most.
func (r *numbers) notices(n, most int) []release.Notice {
	var out []release.Notice
	number := 0
	for range r.below(n + 1) {
		number += 1 + r.below(3)
		issued := r.below(most)
		from := issued + r.below(most)
		out = append(out, notice(number, r.name(), issued, from, from+1+r.below(most), r.below(4)))
	}
	return out
}

// change returns a change of few runways with a tick below most.
func (r *numbers) change(most int) release.Change {
	return change(r.name(), r.below(most), r.below(4))
}

// works returns up to n works of few runways with times and worths up to most.
func (r *numbers) works(n, most int) []release.Work {
	var out []release.Work
	for i := range r.below(n + 1) {
		out = append(out, work(fmt.Sprintf("w%d", i), r.name(), 1+r.below(most), r.upTo(most)))
	}
	return out
}

// The following functions are the definitions of the chapter in other words.

// isBelow reports whether a number of a weather is below that of minima.
func isBelow(w, minima release.Weather) bool {
	return slices.Min([]int{w.Views[0] - minima.Views[0], w.Views[1] - minima.Views[1], w.Views[2] - minima.Views[2], w.Ceiling - minima.Ceiling}) < 0
}

// neededOf goes down from the greatest category.
func neededOf(r release.Runway, w release.Weather) int {
	needed := 0
	for category := 3; category >= 1; category-- {
		if !isBelow(w, r.Minima[category-1]) {
			needed = category
		}
	}
	return needed
}

// lackingOf is the words for what equipment has less than is needed.
func lackingOf(x, needs release.Equipment) []string {
	out := []string{}
	if x.Signal < needs.Signal {
		out = append(out, "signal")
	}
	if x.Lights < needs.Lights {
		out = append(out, "lights")
	}
	if x.Switch > needs.Switch {
		out = append(out, "switch")
	}
	if needs.Standby && !x.Standby {
		out = append(out, "standby")
	}
	return out
}

// capableOf goes down from the greatest category.
func capableOf(r release.Runway, x release.Equipment) int {
	for category := 3; category >= 1; category-- {
		if len(lackingOf(x, r.Needs[category-1])) == 0 {
			return category
		}
	}
	return 0
}

// reasonsOf is why a landing is not permitted.
func reasonsOf(r release.Runway, w release.Weather, x release.Equipment, limits [2]int) []string {
	category := neededOf(r, w)
	if category == 0 {
		return words("weather")
	}
	out := lackingOf(x, r.Needs[category-1])
	for i, word := range words("aircraft", "crew") {
		if limits[i] < category {
			out = append(out, word)
		}
	}
	return out
}

// seenBefore is how many moments before an index, from the one before it on backwards, have at least a view.
func seenBefore(l []release.Moment, i, view int) int {
	n := 0
	for n < i && l[i-n-1].View >= view {
		n++
	}
	return n
}

// unmetOf is the words for the conditions that do not hold at a moment.
func unmetOf(m release.Moment) []string {
	out := []string{}
	for i, holds := range []bool{m.Clear, m.Staffed, m.Lit} {
		if !holds {
			out = append(out, []string{"clear", "staff", "light"}[i])
		}
	}
	return out
}

// stepOf is the step after the first i moments.
func stepOf(r release.Rule, l []release.Moment, i int) int {
	if i == 0 {
		return 0
	}
	m, over := l[i-1], seenBefore(l, i, r.Leave) >= r.Moments
	switch stepOf(r, l, i-1) {
	case 0:
		if m.View < r.Prepare {
			return 1
		}
		return 0
	case 1:
		if m.View < r.Enter && len(unmetOf(m)) == 0 {
			return 2
		}
		if over {
			return 0
		}
		return 1
	}
	if over || len(unmetOf(m)) > 0 {
		return 1
	}
	return 2
}

// stepsOf is the step after each moment.
func stepsOf(r release.Rule, l []release.Moment) []int {
	out := []int{}
	for i := range l {
		out = append(out, stepOf(r, l, i+1))
	}
	return out
}

// forcedOf is the spans of twos in steps.
func forcedOf(steps []int) []api.Span {
	out := []api.Span{}
	for i, step := range steps {
		if step != 2 {
			continue
		}
		if i == 0 || steps[i-1] != 2 {
			out = append(out, span(i, i))
		}
		out[len(out)-1].To++
	}
	return out
}

// blockedOf is what keeps the last step from being in force after each moment.
func blockedOf(r release.Rule, l []release.Moment) [][]string {
	out := [][]string{}
	for i, step := range stepsOf(r, l) {
		reasons := []string{}
		if step == 1 && l[i].View < r.Enter {
			reasons = unmetOf(l[i])
		}
		out = append(out, reasons)
	}
	return out
}

// leftOf takes away each category that a notice does not leave.
func leftOf(l []release.Notice, runway string, most, tick int) int {
	for _, n := range l {
		for n.Runway == runway && n.From <= tick && n.Until > tick && most > n.Category {
			most--
		}
	}
	return most
}

// isTold reports whether a change is told ahead.
func isTold(c release.Change, l []release.Notice, ahead int) bool {
	return slices.ContainsFunc(l, func(n release.Notice) bool {
		return c.Runway == n.Runway && n.Category <= c.Category && n.From <= c.Tick && c.Tick <= n.Until-1 && n.Issued+ahead <= c.Tick
	})
}

// untoldOf is the indices of the changes that are not told ahead.
func untoldOf(changes []release.Change, l []release.Notice, ahead int) []int {
	out := []int{}
	for i, c := range changes {
		if !isTold(c, l, ahead) {
			out = append(out, i)
		}
	}
	return out
}

// nightsOf is all nights, each one of the 2 to the power of the number of works.
func nightsOf(l []release.Work, length int) [][]int {
	var out [][]int
	for bits := range 1 << len(l) {
		night, runways, time := []int{}, map[string]bool{}, 0
		for i, w := range l {
			if bits>>i&1 == 1 {
				night, time = append(night, i), time+w.Time
				runways[w.Runway] = true
			}
		}
		if len(runways) <= 1 && time <= length {
			out = append(out, night)
		}
	}
	return out
}

// worthOf is what works are worth together.
func worthOf(l []release.Work, night []int) int {
	worth := 0
	for _, i := range night {
		worth += l[i].Worth
	}
	return worth
}

// bestOf sorts all nights.
func bestOf(l []release.Work, length int) []any {
	nights := nightsOf(l, length)
	slices.SortFunc(nights, func(a, b []int) int {
		if x, y := worthOf(l, a), worthOf(l, b); x != y {
			return y - x
		}
		if len(a) != len(b) {
			return len(a) - len(b)
		}
		return slices.Compare(a, b)
	})
	return all(nights[0], worthOf(l, nights[0]), api.OK)
}

// boundOf adds up runway by runway.
func boundOf(l []release.Work, length, price int) int {
	most := 0
	for _, runway := range l {
		sum := 0
		for _, w := range l {
			if over := w.Worth - price*w.Time; w.Runway == runway.Runway && over > 0 {
				sum += over
			}
		}
		most = max(most, sum)
	}
	return length*price + most
}
