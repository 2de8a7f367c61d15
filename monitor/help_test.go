package monitor_test

import (
	"fmt"
	"slices"
	"strings"
	"testing"

	"glideslope/api"
	"glideslope/monitor"
)

// shown writes values so that all that is different looks different, but for nil and empty lists.
func shown(l ...any) string {
	return strings.ReplaceAll(fmt.Sprintf("%#v", l), "(nil)", "{}")
}

// same compares results with the expected ones.
func same(t *testing.T, what string, got, want []any) {
	t.Helper()
	if g, w := shown(got...), shown(want...); g != w {
		t.Errorf("%s:\n got %s\nwant %s", what, g, w)
	}
}

// all is its arguments as a list: the results of a call.
func all(l ...any) []any { return l }

// noPanic fails the test if a function panics.
func noPanic(t *testing.T, what string, f func()) {
	t.Helper()
	defer func() {
		if x := recover(); x != nil {
			t.Errorf("%s panics: %v", what, x)
		}
	}()
	f()
}

// with returns a value after a change.
func with[T any](x T, change func(x *T)) T {
	change(&x)
	return x
}

func interval(low, high int) api.Interval { return api.Interval{Low: low, High: high} }

func span(from, to int) api.Span { return api.Span{From: from, To: to} }

// read returns a second without a command.
func read(needles ...int) monitor.Second {
	var x monitor.Second
	for _, n := range needles {
		x.Readings = append(x.Readings, monitor.Reading{Needle: n})
	}
	return x
}

// told returns a second with a command.
func told(command int, needles ...int) monitor.Second {
	return with(read(needles...), func(x *monitor.Second) { x.Command = command })
}

// The plant, the seconds, the failures, the limits and the checks of the chapter's examples.
var (
	sensorA  = monitor.Sensor{Name: "a", Kind: "near", Limits: interval(-10, 10), Delay: 2}
	sensorB  = monitor.Sensor{Name: "b", Kind: "integral", Limits: interval(-10, 10), Delay: 3}
	sensorC  = monitor.Sensor{Name: "c", Kind: "far", Limits: interval(-20, 20), Delay: 1}
	plantP   = monitor.Plant{Sensors: []monitor.Sensor{sensorA, sensorB, sensorC}, Need: 2, Silence: 2}
	seconds  = []monitor.Second{read(0, 0, 0), read(15, 15, 30), read(15, 15, 0), read(15, 15, 0), read(15, 15, 30), read(15, 15, 30), read(15, 15, 30), read(15, 15, 30)}
	needles  = []int{0, 15, 15, 15, 15, 15, 15, 15}
	feed     = monitor.Failure{Name: "feed", True: 20, Needles: []int{20, 20, 25}, Rate: 3}
	phase    = monitor.Failure{Name: "phase", True: 15, Needles: []int{5, 15, 15}, Rate: 2}
	wire     = monitor.Failure{Name: "wire", True: 0, Needles: []int{0, 30, 0}, Rate: 5}
	gain     = monitor.Failure{Name: "gain", True: 8, Needles: []int{8, 8, 8}, Rate: 1}
	failures = []monitor.Failure{feed, phase, wire, gain}
	limits   = interval(-12, 12)
	checks   = []monitor.Check{{Name: "near", Every: 30, Last: 100}, {Name: "far", Every: 7, Last: 120}}
)

// numbers is a row of numbers that look random, and are the same in each run.
type numbers struct{ x uint64 }

func (r *numbers) below(n int) int {
	r.x = r.x*6364136223846793005 + 1442695040888963407
	return int((r.x >> 33) % uint64(n))
}

// within returns a number from -most to most.
func (r *numbers) within(most int) int { return r.below(2*most+1) - most }

// small returns a number from 0 to most, mostly a small one.
func (r *numbers) small(most int) int { return r.below(1 + r.below(most+1)) }

func (r *numbers) is(part int) bool { return r.below(part) == 0 }

// far returns a scale of needles.
func (r *numbers) far() int { return []int{2, 6, 10000}[r.below(3)] }

// limits returns limits, mostly about 0.
func (r *numbers) limits(far int) api.Interval {
	a, b := r.within(far), r.within(far)
	if !r.is(4) {
		a, b = -r.below(far+1), r.below(far+1)
	}
	return interval(min(a, b), max(a, b))
}

func nameOf(i int) string { return fmt.Sprintf("n%d", i) }

var kinds = []string{"integral", "near", "far"}

// plant returns a plant with 1 to n sensors.
func (r *numbers) plant(far, n int) monitor.Plant {
	var p monitor.Plant
	delay := []int{1, 3, 5, 60}[r.below(4)]
	for i := range 1 + r.below(n) {
		p.Sensors = append(p.Sensors, monitor.Sensor{Name: nameOf(i), Kind: kinds[r.below(3)], Limits: r.limits(far), Delay: 1 + r.below(delay)})
	}
	p.Need = 1 + r.small(len(p.Sensors)-1)
	p.Silence = r.below([]int{1, 4, 61}[r.below(3)])
	return p
}

// seconds returns at most n seconds of a plant. Readings often stay as they are.
func (r *numbers) seconds(p monitor.Plant, far, n int) []monitor.Second {
	l := make([]monitor.Second, r.below(n+1))
	now := make([]monitor.Reading, len(p.Sensors))
	for i := range l {
		for k := range now {
			switch r.below(6) {
			case 0:
				now[k] = monitor.Reading{Missing: true}
			case 1, 2:
				now[k] = monitor.Reading{Needle: r.within(far)}
			}
		}
		l[i].Readings = slices.Clone(now)
		if r.is(12) {
			l[i].Command = 1 + r.below(3)
		}
	}
	return l
}

// row returns n needles.
func (r *numbers) row(far, n int) []int {
	l := make([]int, n)
	for i := range l {
		l[i] = r.within(far)
	}
	return l
}

// failures returns at most n failures of a plant.
func (r *numbers) failures(p monitor.Plant, far, n int) []monitor.Failure {
	l := make([]monitor.Failure, r.below(n+1))
	for i := range l {
		l[i] = monitor.Failure{Name: nameOf(i), True: r.within(far), Needles: r.row(far, len(p.Sensors)), Rate: r.below(1001)}
	}
	return l
}

// checks returns at most n checks.
func (r *numbers) checks(n int) []monitor.Check {
	l := make([]monitor.Check, r.below(n+1))
	most := []int{20, 10000}[r.below(2)]
	for i := range l {
		l[i] = monitor.Check{Name: nameOf(i), Every: 1 + r.below(most), Last: r.below(10 * most)}
	}
	return l
}

// The following functions are the definitions of the chapter in other words: with the runs of readings, second by second, and with sets as bits.

func isOutside(n int, x api.Interval) bool { return n < x.Low || n > x.High }

// isVoteOf reports whether the sensors at indices vote.
func isVoteOf(p monitor.Plant, indices []int) bool {
	isNearer := false
	for _, i := range indices {
		isNearer = isNearer || p.Sensors[i].Kind == "near" || p.Sensors[i].Kind == "integral"
	}
	return isNearer && len(indices) >= p.Need
}

// runOf is the number of successive seconds, from one to another, at the end of which a sensor reads what it should not.
func runOf(x monitor.Sensor, l []monitor.Second, sensor, from, to int) int {
	n := 0
	for at := to; at >= from; at-- {
		r := l[at].Readings[sensor]
		if !r.Missing && !isOutside(r.Needle, x.Limits) {
			break
		}
		n++
	}
	return n
}

// hasEffect reports whether a command has an effect in a mode.
func hasEffect(command, mode int) bool {
	return command == monitor.Maintain || command == monitor.Resume && mode == monitor.Maintenance || command == monitor.Reset && mode == monitor.Down
}

// stateOf is a state with its alarms.
type stateOf struct {
	state  monitor.State
	alarms []string
}

// statesOf is the states after all seconds, with their alarms.
func statesOf(p monitor.Plant, l []monitor.Second) []stateOf {
	var out []stateOf
	mode, end, from := monitor.Main, 0, 0 // when a transfer ends, and when the counts began
	for at, x := range l {
		var next stateOf
		before := mode
		switch {
		case hasEffect(x.Command, mode):
			mode, from = monitor.Main, at+1
			if x.Command == monitor.Maintain {
				mode = monitor.Maintenance
			}
		case mode == monitor.Transfer && at == end:
			mode, from = monitor.Standby, at+1
		case mode == monitor.Main || mode == monitor.Standby:
			var in []int
			for i, s := range p.Sensors {
				run := runOf(s, l, i, from, at)
				next.state.Counts[i] = min(run, s.Delay)
				if run >= s.Delay {
					in = append(in, i)
					next.alarms = append(next.alarms, s.Name)
				}
			}
			if !isVoteOf(p, in) {
				break
			}
			next.state.Counts = [8]int{}
			mode, end, from = monitor.Transfer, at+p.Silence, at+1
			if before == monitor.Standby {
				mode = monitor.Down
			} else if p.Silence == 0 {
				mode = monitor.Standby
			}
		}
		next.state.Mode = mode
		if mode == monitor.Transfer {
			next.state.Left = end - at
		}
		out = append(out, next)
	}
	return out
}

func isUsefulOf(s stateOf) bool {
	return s.state.Mode == monitor.Main || s.state.Mode == monitor.Standby
}

// silentOf is the longest spans of seconds that are not useful.
func silentOf(p monitor.Plant, l []monitor.Second) []api.Span {
	var out []api.Span
	states := statesOf(p, l)
	for from := 0; from < len(states); from++ {
		to := from
		for to < len(states) && !isUsefulOf(states[to]) {
			to++
		}
		if to > from {
			out = append(out, span(from, to))
			from = to
		}
	}
	return out
}

// exposedOf is the length of the longest span of seconds that are all exposed.
func exposedOf(p monitor.Plant, l []monitor.Second, needles []int, limits api.Interval) int {
	most := 0
	states := statesOf(p, l)
	for from := range states {
		to := from
		for to < len(states) && isUsefulOf(states[to]) && isOutside(needles[to], limits) {
			to++
		}
		most = max(most, to-from)
	}
	return most
}

// seersOf is the sensors of a set, whose bits are their indices, that see needles, and have at most a delay.
func seersOf(p monitor.Plant, set int, needles []int, delay int) []int {
	var out []int
	for i, s := range p.Sensors {
		if set>>i&1 == 1 && isOutside(needles[i], s.Limits) && s.Delay <= delay {
			out = append(out, i)
		}
	}
	return out
}

// seenOf is after how many seconds a set sees needles, or 0.
func seenOf(p monitor.Plant, set int, needles []int) int {
	for n := 1; n <= 60; n++ {
		if isVoteOf(p, seersOf(p, set, needles, n)) {
			return n
		}
	}
	return 0
}

const everySensor = 255

func seenByAll(p monitor.Plant, f monitor.Failure) int { return seenOf(p, everySensor, f.Needles) }

// sumsOf is the sums of needles.
func sumsOf(a, b []int) []int {
	var out []int
	for i := range a {
		out = append(out, a[i]+b[i])
	}
	return out
}

// pairsOf is the hidden pairs as indices.
func pairsOf(p monitor.Plant, l []monitor.Failure, limits api.Interval) [][2]int {
	var out [][2]int
	for i, f := range l {
		for j, o := range l {
			isSeen := seenByAll(p, f) > 0 || seenByAll(p, o) > 0 || seenOf(p, everySensor, sumsOf(f.Needles, o.Needles)) > 0
			if i < j && isOutside(f.True+o.True, limits) && !isSeen {
				out = append(out, [2]int{i, j})
			}
		}
	}
	return out
}

// namesOf is the names of failures that are or are not hazardous, and are or are not seen.
func namesOf(p monitor.Plant, l []monitor.Failure, limits api.Interval, isHazardous, isSeen bool) []string {
	var out []string
	for _, f := range l {
		if isOutside(f.True, limits) == isHazardous && (seenByAll(p, f) > 0) == isSeen {
			out = append(out, f.Name)
		}
	}
	return out
}

// riskOf adds up the risk event by event.
func riskOf(p monitor.Plant, l []monitor.Failure, limits api.Interval, period int) int {
	risk := 0
	for _, f := range l {
		if isOutside(f.True, limits) && seenByAll(p, f) == 0 {
			risk += period * 1000 * f.Rate
		}
	}
	for _, x := range pairsOf(p, l, limits) {
		risk += period * l[x[0]].Rate * l[x[1]].Rate
	}
	return risk
}

// missedOf is the first hazardous failure that a set does not see, or -1.
func missedOf(p monitor.Plant, l []monitor.Failure, limits api.Interval, set int) int {
	for i, f := range l {
		if isOutside(f.True, limits) && seenOf(p, set, f.Needles) == 0 {
			return i
		}
	}
	return -1
}

// indicesOf is the indices of a set.
func indicesOf(set int) []int {
	var out []int
	for i := range 8 {
		if set>>i&1 == 1 {
			out = append(out, i)
		}
	}
	return out
}

// setsOf is all sets of n sensors in their order: their indices, as digits, are compared as strings.
func setsOf(n int) []int {
	var out []int
	for set := range 1 << n {
		out = append(out, set)
	}
	key := func(set int) string { return fmt.Sprint(len(indicesOf(set)), indicesOf(set)) }
	slices.SortFunc(out, func(a, b int) int { return strings.Compare(key(a), key(b)) })
	return out
}

// leastOf is the least set and the proof of a plant, and whether there are both.
func leastOf(p monitor.Plant, l []monitor.Failure, limits api.Interval) ([]int, []int, bool) {
	var missed []int
	for _, set := range setsOf(len(p.Sensors)) {
		i := missedOf(p, l, limits, set)
		if i < 0 {
			least := indicesOf(set)
			return least, missed[:setsBelow(len(p.Sensors), len(least))], true
		}
		missed = append(missed, i)
	}
	return nil, nil, false
}

// setsBelow is how many sets of n sensors have fewer sensors than a count.
func setsBelow(n, count int) int {
	sum := 0
	for set := range 1 << n {
		if len(indicesOf(set)) < count {
			sum++
		}
	}
	return sum
}

// isProofOf reports whether a proof with the right number of indices proves what it should.
func isProofOf(p monitor.Plant, l []monitor.Failure, limits api.Interval, proof []int) bool {
	for k, set := range setsOf(len(p.Sensors))[:len(proof)] {
		if f := l[proof[k]]; !isOutside(f.True, limits) || seenOf(p, set, f.Needles) > 0 {
			return false
		}
	}
	return true
}
