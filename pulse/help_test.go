package pulse_test

import (
	"fmt"
	"slices"
	"strings"
	"testing"

	"glideslope/api"
	"glideslope/pulse"
)

// shown writes values so that all that is different looks different, but for nil and empty lists.
func shown(l ...any) string {
	return strings.ReplaceAll(fmt.Sprintf("%#v", l), "(nil)", "{}")
}

// same compares results with the expected ones.
func same(t *testing.T, what string, got, want []any) {
	t.Helper()
	if g, w := shown(got...), shown(want...); g != w {
		t.Errorf("%s:\n got %s\nwant %s", what, g, w)
	}
}

// all is its arguments as a list: the results of a call.
func all(l ...any) []any { return l }

// noPanic fails the test if a function panics.
func noPanic(t *testing.T, what string, f func()) {
	t.Helper()
	defer func() {
		if x := recover(); x != nil {
			t.Errorf("%s panics: %v", what, x)
		}
	}()
	f()
}

// with returns a value after a change.
func with[T any](x T, change func(x *T)) T {
	change(&x)
	return x
}

func interval(low, high int) api.Interval { return api.Interval{Low: low, High: high} }

func span(from, to int) api.Span { return api.Span{From: from, To: to} }

// ticks is its arguments as a list.
func ticks(l ...int) []int { return l }

// every returns n ticks from one on, so far apart.
func every(n, from, apart int) []int {
	var l []int
	for i := range n {
		l = append(l, from+i*apart)
	}
	return l
}

// The station, the calls, and the marker with its way of the chapter's examples.
var (
	stationD = pulse.Station{Spacing: 12, Delay: 50, Off: 2, Dead: 60, Echo: 20, Most: 3, Window: 1000, Gap: 400}
	callsC   = ticks(100, 110, 150, 200, 300, 400)
	calls6   = ticks(0, 1000, 2000)
	replies6 = ticks(250, 260, 1250, 1300, 2251)
	outer    = pulse.Marker{Name: "outer", From: 10, To: 14, Keys: ticks(2, 1)}
	way9     = ticks(9, 10, 11, 12, 13, 14, 13)
)

// least and most are the stations with the least and the greatest numbers.
var (
	least = pulse.Station{Spacing: 1, Most: 1, Window: 1, Gap: 1}
	most  = pulse.Station{Spacing: 1000, Delay: 10000, Off: 1000, Dead: 10000, Echo: 10000, Most: 1000, Window: 1000000, Gap: 1000000}
)

// quick returns a station that answers each call at once.
func quick(change func(s *pulse.Station)) pulse.Station {
	return with(pulse.Station{Spacing: 10, Most: 1000, Window: 1, Gap: 1000000}, change)
}

// The calls of the functions as lists of their results.

func paired(pulses []int, spacing, tolerance int) []any {
	l, e := pulse.Pairs(pulses, spacing, tolerance)
	return all(l, e)
}

func alone(pulses []int, spacing, tolerance int) []any {
	l, e := pulse.Alone(pulses, spacing, tolerance)
	return all(l, e)
}

func answered(s pulse.Station, calls []int) []any {
	l, e := pulse.Answers(s, calls)
	return all(l, e)
}

func given(s pulse.Station, calls []int, reason string) []any {
	l, e := pulse.Given(s, calls, reason)
	return all(l, e)
}

func squitter(s pulse.Station, calls []int, until int) []any {
	l, e := pulse.Squitter(s, calls, until)
	return all(l, e)
}

func replied(s pulse.Station, calls []int, until int) []any {
	l, e := pulse.Replies(s, calls, until)
	return all(l, e)
}

func loaded(s pulse.Station, calls []int, until int) []any {
	n, e := pulse.Load(s, calls, until)
	return all(n, e)
}

func sent(s pulse.Station, calls []int, until int) []any {
	l, e := pulse.Sent(s, calls, until)
	return all(l, e)
}

func distance(s pulse.Station, call, reply int) []any {
	x, e := pulse.Distance(s, call, reply)
	return all(x, e)
}

func agreed(s pulse.Station, calls, replies []int, distance int) []any {
	n, e := pulse.Agreed(s, calls, replies, distance)
	return all(n, e)
}

func ranged(s pulse.Station, calls, replies []int, need int) []any {
	distance, n, e := pulse.Ranged(s, calls, replies, need)
	return all(distance, n, e)
}

func tracked(s pulse.Station, g pulse.Gate, calls, replies []int) []any {
	l, e := pulse.Tracked(s, g, calls, replies)
	return all(l, e)
}

func channel(number int, kind byte) []any {
	l, e := pulse.Channel(number, kind)
	return all(l, e)
}

func tuned(frequency int, kind byte) []any {
	n, e := pulse.Tuned(frequency, kind)
	return all(n, e)
}

func lamps(l []pulse.Marker, way []int) []any {
	lit, e := pulse.Lamps(l, way)
	return all(lit, e)
}

func passed(l []pulse.Marker, way []int, name string) []any {
	spans, e := pulse.Passed(l, way, name)
	return all(spans, e)
}

// numbers is a row of numbers that look random, and are the same in each run.
type numbers struct{ x uint64 }

func (r *numbers) below(n int) int {
	r.x = r.x*6364136223846793005 + 1442695040888963407
	return int((r.x >> 33) % uint64(n))
}

// within returns a number from -most to most.
func (r *numbers) within(most int) int { return r.below(2*most+1) - most }

// small returns a number from 0 to most, mostly a small one.
func (r *numbers) small(most int) int { return r.below(1 + r.below(most+1)) }

func (r *numbers) is(part int) bool { return r.below(part) == 0 }

// ticks returns at most n strictly ascending ticks, mostly less than apart from one to the next.
func (r *numbers) ticks(n, apart int) []int {
	var l []int
	tick := r.below(apart)
	for range r.below(n + 1) {
		l = append(l, tick)
		tick += 1 + r.below(apart)
		if r.is(10) {
			tick += r.below(10 * apart)
		}
	}
	return l
}

// station returns a station with times that are mostly at most so long.
func (r *numbers) station(long int) pulse.Station {
	return pulse.Station{
		Spacing: 1 + r.below(min(long, 1000)),
		Delay:   r.below(long + 1),
		Off:     r.small(min(long, 1000)),
		Dead:    r.small(long),
		Echo:    r.small(long),
		Most:    1 + r.small(9),
		Window:  1 + r.below(10*long),
		Gap:     1 + r.below(5*long),
	}
}

// any returns any station.
func (r *numbers) any() pulse.Station {
	var s pulse.Station
	for i, x := range stationRanges {
		*field(&s, i) = x[0] + r.below(x[1]-x[0]+1)
	}
	return s
}

// markers returns at most n markers with places from -far to far.
func (r *numbers) markers(n, far int) []pulse.Marker {
	var l []pulse.Marker
	for i := range r.below(n + 1) {
		m := pulse.Marker{Name: fmt.Sprintf("n%d", i), From: r.within(far)}
		m.To = m.From + 1 + r.below(far)
		for range 1 + r.small(15) {
			m.Keys = append(m.Keys, 1+r.small(6))
		}
		l = append(l, m)
	}
	return l
}

// way returns 1 to n places from -far to far; one is mostly near the one before it.
func (r *numbers) way(n, far int) []int {
	var l []int
	place := r.within(far)
	for range 1 + r.below(n) {
		l = append(l, place)
		place = max(-far, min(far, place+r.within(2)))
		if r.is(30) {
			place = r.within(far)
		}
	}
	return l
}

// The following functions are the definitions of the chapter in other words: pulse by pulse, tick by tick, and distance by distance.

// pairsOf takes the first pulse that is left, and what belongs to it, until none is left.
func pairsOf(pulses []int, spacing, tolerance int) (firsts, alone []int) {
	left := slices.Clone(pulses)
	for len(left) > 0 {
		first, rest := left[0], slices.Clone(left[1:])
		i := slices.IndexFunc(rest, func(p int) bool { return p-first-spacing <= tolerance && spacing-(p-first) <= tolerance })
		if i < 0 {
			alone = append(alone, first)
		} else {
			firsts = append(firsts, first)
			rest = slices.Delete(rest, i, i+1)
		}
		left = rest
	}
	return firsts, alone
}

// answersOf looks at all calls before each one.
func answersOf(s pulse.Station, calls []int) []pulse.Answer {
	var out []pulse.Answer
	for i, call := range calls {
		isDead, isEcho, late := false, false, 0
		for j, before := range calls[:i] {
			if out[j].Reply >= 0 {
				isDead = isDead || call-before <= s.Dead
				if before > call-s.Window {
					late++
				}
			}
			isEcho = j == i-1 && call-before <= s.Echo
		}
		switch {
		case isDead:
			out = append(out, pulse.Answer{Reply: -1, Reason: "dead"})
		case isEcho:
			out = append(out, pulse.Answer{Reply: -1, Reason: "echo"})
		case late >= s.Most:
			out = append(out, pulse.Answer{Reply: -1, Reason: "load"})
		default:
			out = append(out, pulse.Answer{Reply: call + s.Delay, Reason: ""})
		}
	}
	return out
}

// answeredOf is the ticks of the replies to calls.
func answeredOf(s pulse.Station, calls []int) []int {
	var out []int
	for _, a := range answersOf(s, calls) {
		if a.Reply >= 0 {
			out = append(out, a.Reply)
		}
	}
	return out
}

// squitterOf goes from tick to tick.
func squitterOf(s pulse.Station, calls []int, until int) []int {
	answers := answeredOf(s, calls)
	var out []int
	last := 0
	for tick := 1; tick < until; tick++ {
		if slices.Contains(answers, tick) {
			last = tick
		} else if tick == last+s.Gap {
			out = append(out, tick)
			last = tick
		}
	}
	return out
}

// marksOf marks ticks, so that each one is there once.
func marksOf(lists ...[]int) map[int]bool {
	marks := map[int]bool{}
	for _, l := range lists {
		for _, tick := range l {
			marks[tick] = true
		}
	}
	return marks
}

// sortedOf is the marked ticks in their order.
func sortedOf(marks map[int]bool) []int {
	var out []int
	for tick := range marks {
		out = append(out, tick)
	}
	slices.Sort(out)
	return out
}

// repliesOf is all replies.
func repliesOf(s pulse.Station, calls []int, until int) []int {
	return sortedOf(marksOf(answeredOf(s, calls), squitterOf(s, calls, until)))
}

// loadOf counts the replies in the window from each one on.
func loadOf(l []int, window int) int {
	out := 0
	for _, from := range l {
		n := 0
		for _, tick := range l {
			if from <= tick && tick <= from+window-1 {
				n++
			}
		}
		out = max(out, n)
	}
	return out
}

// sentOf is both pulses of all replies.
func sentOf(l []int, spacing int) []int {
	var seconds []int
	for _, tick := range l {
		seconds = append(seconds, tick+spacing)
	}
	return sortedOf(marksOf(l, seconds))
}

// mayMean reports whether a reply is off by at most Off if a distance is the true one.
func mayMean(s pulse.Station, call, reply, distance int) bool {
	off := reply - (call + s.Delay + 2*distance)
	return distance >= 0 && -s.Off <= off && off <= s.Off
}

// agrees reports whether a call agrees with a distance.
func agrees(s pulse.Station, call int, replies []int, distance int) bool {
	return slices.ContainsFunc(replies, func(reply int) bool { return reply >= call && mayMean(s, call, reply, distance) })
}

// agreedOf is how many calls agree with a distance.
func agreedOf(s pulse.Station, calls, replies []int, distance int) int {
	n := 0
	for _, call := range calls {
		if agrees(s, call, replies, distance) {
			n++
		}
	}
	return n
}

// rangedOf tries all distances up to one.
func rangedOf(s pulse.Station, calls, replies []int, far int) (best, n int) {
	for d := range far + 1 {
		if m := agreedOf(s, calls, replies, d); m > n {
			best, n = d, m
		}
	}
	return best, n
}

// nearestOf is the distance nearest to one, at most Width away, that a reply may mean, or -1.
func nearestOf(s pulse.Station, call, reply, distance, width int) int {
	for away := range width + 1 {
		for _, d := range []int{distance - away, distance + away} {
			if mayMean(s, call, reply, d) {
				return d
			}
		}
	}
	return -1
}

// trackedOf tries all distances within the gate.
func trackedOf(s pulse.Station, g pulse.Gate, calls, replies []int) []int {
	var out []int
	now, without := g.Distance, 0
calls:
	for _, call := range calls {
		without++
		for _, reply := range replies {
			if now < 0 || reply < call {
				continue
			}
			if d := nearestOf(s, call, reply, now, g.Width); d >= 0 {
				now, without = d, 0
				out = append(out, now)
				continue calls
			}
		}
		if without > g.Memory {
			now = -1
		}
		out = append(out, now)
	}
	return out
}

// isLitOf writes what the lamp shows, key after key, and looks at a tick.
func isLitOf(m pulse.Marker, way []int, tick int) bool {
	since := tick
	for since >= 0 && m.From <= way[since] && way[since] < m.To {
		since--
	}
	if since == tick {
		return false
	}
	shows := ""
	state := "+"
	for len(shows) < 300 {
		for _, n := range m.Keys {
			shows += strings.Repeat(state, n)
			state = map[string]string{"+": "-", "-": "+"}[state]
		}
	}
	return shows[tick-since-1] == '+'
}

// lampsOf is the lamps that are lit at each tick.
func lampsOf(l []pulse.Marker, way []int) []string {
	var out []string
	for tick := range way {
		s := ""
		for _, m := range l {
			if isLitOf(m, way, tick) {
				s += " " + m.Name
			}
		}
		out = append(out, strings.TrimPrefix(s, " "))
	}
	return out
}

// passedOf is the spans of ticks in which a marker is heard.
func passedOf(m pulse.Marker, way []int) []api.Span {
	var out []api.Span
	from := -1
	for tick := range len(way) + 1 {
		is := tick < len(way) && way[tick] >= m.From && way[tick] < m.To
		if is && from < 0 {
			from = tick
		}
		if !is && from >= 0 {
			out = append(out, span(from, tick))
			from = -1
		}
	}
	return out
}
