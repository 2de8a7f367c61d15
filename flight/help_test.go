package flight_test

import (
	"fmt"
	"math/big"
	"slices"
	"strings"
	"testing"

	"glideslope/api"
	"glideslope/flight"
)

// shown writes values so that all that is different looks different, but for nil and empty lists.
func shown(l ...any) string {
	return strings.ReplaceAll(fmt.Sprintf("%#v", l), "(nil)", "{}")
}

// same compares results with the expected ones.
func same(t *testing.T, what string, got, want []any) {
	t.Helper()
	if g, w := shown(got...), shown(want...); g != w {
		t.Errorf("%s:\n got %s\nwant %s", what, g, w)
	}
}

// all is its arguments as a list: the results of a call.
func all(l ...any) []any { return l }

// noPanic fails the test if a function panics.
func noPanic(t *testing.T, what string, f func()) {
	t.Helper()
	defer func() {
		if x := recover(); x != nil {
			t.Errorf("%s panics: %v", what, x)
		}
	}()
	f()
}

// with returns a value after a change.
func with[T any](x T, change func(x *T)) T {
	change(&x)
	return x
}

func interval(low, high int) api.Interval { return api.Interval{Low: low, High: high} }

func exactly(n int) api.Interval { return interval(n, n) }

func span(from, to int) api.Span { return api.Span{From: from, To: to} }

// indices is its arguments as a list.
func indices(l ...int) []int { return l }

// run returns the run of positions and needles, without flags.
func run(l ...int) []flight.Mark {
	var out []flight.Mark
	for i := 0; i < len(l); i += 2 {
		out = append(out, flight.Mark{Position: l[i], Needle: l[i+1]})
	}
	return out
}

// flagged returns a run with flags at some indices.
func flagged(l []flight.Mark, at ...int) []flight.Mark {
	out := slices.Clone(l)
	for _, i := range at {
		out[i].Flag = true
	}
	return out
}

// fix returns a fix with the ends of its box.
func fix(name string, l ...int) flight.Fix {
	return flight.Fix{Name: name, Box: [3]api.Interval{interval(l[0], l[1]), interval(l[2], l[3]), interval(l[4], l[5])}}
}

// zone returns a zone with a limit.
func zone(low, high, limit int) flight.Zone {
	return flight.Zone{At: interval(low, high), Limit: limit}
}

// figure returns a figure from one number to another one.
func figure(name string, low, high int) flight.Figure {
	return flight.Figure{Name: name, Value: interval(low, high)}
}

// tolerance returns a tolerance with the ends of its intervals.
func tolerance(name string, l ...int) flight.Tolerance {
	return flight.Tolerance{Name: name, Within: [3]api.Interval{interval(l[0], l[1]), interval(l[2], l[3]), interval(l[4], l[5])}}
}

// flightOf returns a flight with the ends of its windows.
func flightOf(name string, time int, l ...int) flight.Flight {
	f := flight.Flight{Name: name, Time: time}
	for i := 0; i < len(l); i += 2 {
		f.Windows = append(f.Windows, span(l[i], l[i+1]))
	}
	return f
}

// The values of the chapter's examples.
var (
	fixes1       = []flight.Fix{fix("gps", 0, 10, 0, 10, 5, 9), fix("camera", 4, 20, -3, 2, 9, 12)}
	conflict1    = append(slices.Clone(fixes1), fix("theodolite", 0, 3, 0, 1, 9, 9))
	calibrations = []flight.Calibration{{Applied: 0, Read: 3}, {Applied: 100, Read: 102}, {Applied: -100, Read: -96}}
	runR         = run(-40, -210, -20, -90, 0, 5, 20, 110, 40, 190)
	offset2      = interval(2, 4)
	figures8     = []flight.Figure{figure("alignment", 4, 7), figure("width", 40, 40)}
	tolerances8  = []flight.Tolerance{tolerance("alignment", -10, 10, -5, 5, -3, 3), tolerance("width", 30, 50, 30, 50, 30, 50)}
	flights9     = []flight.Flight{flightOf("a", 3, 0, 10), flightOf("b", 4, 2, 6, 8, 20)}
)

// everywhere is the zone of all positions.
var everywhere = interval(-100000, 100000)

// The calls of the functions as lists of their results.

func meets(l []flight.Fix) []any {
	b, e := flight.Meet(l)
	return all(b, e)
}

func odd(l []flight.Fix) []any {
	i, e := flight.Odd(l)
	return all(i, e)
}

func offset(l []flight.Calibration) []any {
	x, e := flight.Offset(l)
	return all(x, e)
}

func trues(l []flight.Mark, offset api.Interval) []any {
	out, e := flight.True(l, offset)
	return all(out, e)
}

func aligned(l []flight.Mark, offset, zone api.Interval) []any {
	x, e := flight.Alignment(l, offset, zone)
	return all(x, e)
}

func edged(l []flight.Mark, offset api.Interval, level int) []any {
	x, e := flight.Edge(l, offset, level)
	return all(x, e)
}

func wide(l []flight.Mark, offset api.Interval, deflection int) []any {
	x, e := flight.Width(l, offset, deflection)
	return all(x, e)
}

func cleared(l []flight.Mark, offset, zone api.Interval) []any {
	x, e := flight.Clearance(l, offset, zone)
	return all(x, e)
}

func sided(l []flight.Mark, offset api.Interval, zones []flight.Zone) []any {
	out, e := flight.Outside(l, offset, zones)
	return all(out, e)
}

func structured(l []flight.Mark, offset api.Interval, zones []flight.Zone) []any {
	out, e := flight.Structure(l, offset, zones)
	return all(out, e)
}

func polarized(a, b []flight.Mark, offset api.Interval) []any {
	x, e := flight.Polarization(a, b, offset)
	return all(x, e)
}

func resulted(figures []flight.Figure, tolerances []flight.Tolerance, category int) []any {
	n, e := flight.Result(figures, tolerances, category)
	return all(n, e)
}

func reasoned(figures []flight.Figure, tolerances []flight.Tolerance, category int) []any {
	l, e := flight.Reasons(figures, tolerances, category)
	return all(l, e)
}

func classed(figures []flight.Figure, tolerances []flight.Tolerance) []any {
	n, e := flight.Class(figures, tolerances)
	return all(n, e)
}

func started(l []flight.Flight, order []int) []any {
	out, e := flight.Starts(l, order)
	return all(out, e)
}

func best(l []flight.Flight) []any {
	order, end, e := flight.Best(l)
	return all(order, end, e)
}

func bounded(l []flight.Flight) []any {
	n, e := flight.Bound(l)
	return all(n, e)
}

// numbers is a row of numbers that look random, and are the same in each run.
type numbers struct{ x uint64 }

func (r *numbers) below(n int) int {
	r.x = r.x*6364136223846793005 + 1442695040888963407
	return int((r.x >> 33) % uint64(n))
}

// within returns a number from -most to most.
func (r *numbers) within(most int) int { return r.below(2*most+1) - most }

func (r *numbers) is(part int) bool { return r.below(part) == 0 }

// among returns a number of an interval.
func (r *numbers) among(x api.Interval) int { return x.Low + r.below(x.High-x.Low+1) }

// interval returns an interval of numbers from -most to most.
func (r *numbers) interval(most int) api.Interval {
	a, b := r.within(most), r.within(most)
	return interval(min(a, b), max(a, b))
}

// part returns an interval within one.
func (r *numbers) part(x api.Interval) api.Interval {
	a, b := r.among(x), r.among(x)
	return interval(min(a, b), max(a, b))
}

// offset returns an offset that is known well.
func (r *numbers) offset() api.Interval {
	low := r.within(8)
	return interval(low, low+r.below(7))
}

// fixes returns 1 to 8 fixes with places from -20 to 20; the boxes about a place are mostly large.
func (r *numbers) fixes() []flight.Fix {
	var l []flight.Fix
	for i := range 1 + r.below(8) {
		f := flight.Fix{Name: fmt.Sprintf("f%d", i)}
		for k := range f.Box {
			f.Box[k] = interval(-r.below(21), r.below(21))
			if r.is(8) {
				f.Box[k] = r.interval(20)
			}
		}
		l = append(l, f)
	}
	return l
}

// run returns a run of 1 to n marks with needles from -most to most, some with flags.
func (r *numbers) run(n, most int) []flight.Mark {
	var l []flight.Mark
	position := -1 - r.below(60)
	for range 1 + r.below(n) {
		l = append(l, flight.Mark{Position: position, Needle: r.within(most), Flag: r.is(6)})
		position += 1 + r.below(9)
	}
	return l
}

// rising returns a run whose needles mostly rise.
func (r *numbers) rising(n, step int) []flight.Mark {
	l := r.run(n, 0)
	needle := -r.below(step * (1 + n/2))
	for i := range l {
		l[i].Needle = needle
		needle += r.below(step + 1)
		if r.is(5) {
			needle -= r.below(step + 1)
		}
	}
	return l
}

// zones returns 1 to 4 zones about positions of runs, with limits of at most so much.
func (r *numbers) zones(most int) []flight.Zone {
	var l []flight.Zone
	at := r.within(60)
	for range 1 + r.below(4) {
		to := at + r.below(50)
		l = append(l, zone(at, to, r.below(most+1)))
		at = to + 1 + r.below(10)
	}
	return l
}

// report returns figures, and tolerances of some of them, which are mostly wide.
func (r *numbers) report() ([]flight.Figure, []flight.Tolerance) {
	var figures []flight.Figure
	var tolerances []flight.Tolerance
	for i := range r.below(17) {
		name := fmt.Sprintf("f%d", i)
		figures = append(figures, flight.Figure{Name: name, Value: r.part(r.interval(9))})
		if r.is(2) {
			x := flight.Tolerance{Name: name}
			for k := range x.Within {
				x.Within[k] = interval(-9+r.below(1+2*k), 9-r.below(1+3*k))
				if r.is(9) {
					x.Within[k] = r.interval(9)
				}
			}
			tolerances = append(tolerances, x)
		}
	}
	for i := range tolerances {
		j := r.below(i + 1)
		tolerances[i], tolerances[j] = tolerances[j], tolerances[i]
	}
	return figures, tolerances
}

// flights returns at most n flights with times of at most long ticks.
func (r *numbers) flights(n, long int) []flight.Flight {
	var l []flight.Flight
	for i := range r.below(n + 1) {
		f := flight.Flight{Name: fmt.Sprintf("f%d", i), Time: 1 + r.below(long)}
		from := r.below(3 * long)
		for range 1 + r.below(4) {
			to := from + 1 + r.below(5*long)
			f.Windows = append(f.Windows, span(from, to))
			from = to + 1 + r.below(2*long)
		}
		l = append(l, f)
	}
	return l
}

// order returns an order of n elements.
func (r *numbers) order(n int) []int {
	l := make([]int, n)
	for i := range l {
		l[i] = i
		j := r.below(i + 1)
		l[i], l[j] = l[j], l[i]
	}
	return l
}

// The following functions are the definitions of the chapter in other words: place by place, needle by needle, and tick by tick.

// eachOf is all numbers of an interval.
func eachOf(x api.Interval) []int {
	var out []int
	for n := x.Low; n <= x.High; n++ {
		out = append(out, n)
	}
	return out
}

// reachOf is the interval of the least and the greatest number.
func reachOf(l []int) api.Interval {
	sorted := slices.Sorted(slices.Values(l))
	return interval(sorted[0], sorted[len(sorted)-1])
}

// meetOf tries all places from -20 to 20.
func meetOf(l []flight.Fix) ([3]api.Interval, bool) {
	var out [3]api.Interval
	for k := range out {
		var places []int
		for place := -20; place <= 20; place++ {
			if !slices.ContainsFunc(l, func(f flight.Fix) bool { return place < f.Box[k].Low || place > f.Box[k].High }) {
				places = append(places, place)
			}
		}
		if len(places) == 0 {
			return [3]api.Interval{}, false
		}
		out[k] = reachOf(places)
	}
	return out, true
}

// oddOf leaves out one fix after the other.
func oddOf(l []flight.Fix) []any {
	if _, meet := meetOf(l); meet {
		return all(0, api.ErrEmpty)
	}
	for i := range l {
		if _, meet := meetOf(slices.Delete(slices.Clone(l), i, i+1)); meet {
			return all(i, api.OK)
		}
	}
	return all(0, api.ErrNone)
}

// needlesOf is all true needles of a mark.
func needlesOf(m flight.Mark, offset api.Interval) []int {
	var out []int
	for _, off := range eachOf(offset) {
		out = append(out, m.Needle-off)
	}
	return out
}

// goodOf is the marks of a zone.
func goodOf(l []flight.Mark, zone api.Interval) []flight.Mark {
	return slices.DeleteFunc(slices.Clone(l), func(m flight.Mark) bool {
		return m.Flag || m.Position < zone.Low || m.Position > zone.High
	})
}

// quotient is a number by another one, rounded down.
func quotient(num, den int) int {
	return int(new(big.Int).Div(big.NewInt(int64(num)), big.NewInt(int64(den))).Int64())
}

// alignmentOf is the means for the greatest and for the least offset.
func alignmentOf(l []flight.Mark, offset, zone api.Interval) (api.Interval, bool) {
	l = goodOf(l, zone)
	if len(l) == 0 {
		return api.Interval{}, false
	}
	sum := 0
	for _, m := range l {
		sum += m.Needle
	}
	n := len(l)
	return interval(quotient(sum-n*offset.High, n), -quotient(-(sum-n*offset.Low), n)), true
}

// edgeOf asks each mark whether it is From, and whether it is To.
func edgeOf(l []flight.Mark, offset api.Interval, level int) (api.Interval, bool) {
	l = goodOf(l, everywhere)
	mayBe := func(m flight.Mark) bool {
		return slices.ContainsFunc(needlesOf(m, offset), func(n int) bool { return n >= level })
	}
	isSure := func(m flight.Mark) bool {
		return !slices.ContainsFunc(needlesOf(m, offset), func(n int) bool { return n < level })
	}
	for i, m := range l {
		for j, n := range l {
			isFrom := mayBe(m) && !slices.ContainsFunc(l[:i], mayBe)
			isTo := !slices.ContainsFunc(l[j:], func(m flight.Mark) bool { return !isSure(m) }) && (j == 0 || !isSure(l[j-1]))
			if isFrom && isTo {
				return interval(m.Position, n.Position), true
			}
		}
	}
	return api.Interval{}, false
}

// widthOf goes from one edge to the other one.
func widthOf(l []flight.Mark, offset api.Interval, deflection int) []any {
	a, isA := edgeOf(l, offset, -deflection)
	b, isB := edgeOf(l, offset, deflection)
	if !isA || !isB {
		return all(api.Interval{}, api.ErrNone)
	}
	var widths []int
	for _, from := range []int{a.Low, a.High} {
		for _, to := range []int{b.Low, b.High} {
			widths = append(widths, max(0, to-from))
		}
	}
	return all(reachOf(widths), api.OK)
}

// differencesOf is the differences of each number of one list and each one of another one.
func differencesOf(a, b []int) []int {
	var out []int
	for _, x := range a {
		for _, y := range b {
			out = append(out, max(x-y, y-x))
		}
	}
	return out
}

// clearanceOf looks at the absolute value of each true needle.
func clearanceOf(l []flight.Mark, offset, zone api.Interval) []any {
	var lows, highs []int
	for _, m := range goodOf(l, zone) {
		x := reachOf(differencesOf(needlesOf(m, offset), []int{0}))
		lows, highs = append(lows, x.Low), append(highs, x.High)
	}
	if len(lows) == 0 {
		return all(api.Interval{}, api.ErrNone)
	}
	return all(interval(reachOf(lows).Low, reachOf(highs).Low), api.OK)
}

// outsideOf compares each true needle with each number of the alignment.
func outsideOf(l []flight.Mark, offset api.Interval, zones []flight.Zone) ([]int, bool) {
	alignment, is := alignmentOf(l, offset, everywhere)
	var out []int
	for _, m := range l {
		side := 0
		for _, z := range zones {
			if m.Flag || m.Position < z.At.Low || m.Position > z.At.High {
				continue
			}
			above, pairs := 0, differencesOf(needlesOf(m, offset), eachOf(alignment))
			for _, d := range pairs {
				if d > z.Limit {
					above++
				}
			}
			switch above {
			case len(pairs):
				side = 1
			case 0:
				side = -1
			}
		}
		out = append(out, side)
	}
	return out, is
}

// structureOf goes from mark to mark.
func structureOf(l []flight.Mark, offset api.Interval, zones []flight.Zone) [][]api.Span {
	sides, _ := outsideOf(l, offset, zones)
	out := make([][]api.Span, len(zones))
	for k, z := range zones {
		from := -1
		for i := range len(l) + 1 {
			is := i < len(l) && sides[i] == 1 && l[i].Position >= z.At.Low && l[i].Position <= z.At.High
			if is && from < 0 {
				from = i
			}
			if !is && from >= 0 {
				out[k] = append(out[k], span(from, i))
				from = -1
			}
		}
	}
	return out
}

// polarizationOf compares each true needle of one run with each one of the other run.
func polarizationOf(a, b []flight.Mark, offset api.Interval) []any {
	var lows, highs []int
	for i := range a {
		if !a[i].Flag && !b[i].Flag {
			x := reachOf(differencesOf(needlesOf(a[i], offset), needlesOf(b[i], offset)))
			lows, highs = append(lows, x.Low), append(highs, x.High)
		}
	}
	if len(lows) == 0 {
		return all(api.Interval{}, api.ErrNone)
	}
	return all(interval(reachOf(lows).High, reachOf(highs).High), api.OK)
}

// wordOf asks each number of a figure whether it is within a tolerance.
func wordOf(value, within api.Interval) string {
	in, out := 0, 0
	for _, n := range eachOf(value) {
		if n >= within.Low && n <= within.High {
			in++
		} else {
			out++
		}
	}
	switch {
	case out == 0:
		return "passes"
	case in == 0:
		return "fails"
	}
	return "open"
}

// reportOf is the result of a report, and its reasons.
func reportOf(figures []flight.Figure, tolerances []flight.Tolerance, category int) (int, []string) {
	counts, reasons := map[string]int{}, []string{}
	for _, x := range tolerances {
		for _, f := range figures {
			if f.Name != x.Name {
				continue
			}
			word := wordOf(f.Value, x.Within[category-1])
			counts[word]++
			if word != "passes" {
				reasons = append(reasons, f.Name)
			}
		}
	}
	switch {
	case counts["fails"] > 0:
		return -1, reasons
	case counts["open"] > 0:
		return 0, reasons
	}
	return 1, reasons
}

// classOf goes down from the greatest category.
func classOf(figures []flight.Figure, tolerances []flight.Tolerance) int {
	for class := 3; class > 0; class-- {
		passes := true
		for category := 1; category <= class; category++ {
			result, _ := reportOf(figures, tolerances, category)
			passes = passes && result == 1
		}
		if passes {
			return class
		}
	}
	return 0
}

// startOf tries one tick after the other, or returns -1.
func startOf(f flight.Flight, from int) int {
	last := f.Windows[len(f.Windows)-1].To
	for tick := from; tick <= last; tick++ {
		for _, w := range f.Windows {
			if tick >= w.From && tick+f.Time <= w.To {
				return tick
			}
		}
	}
	return -1
}

// startsOf is the starts of flights in an order, and the end of the last one, or -1.
func startsOf(l []flight.Flight, order []int) ([]int, int) {
	starts, end := make([]int, len(l)), 0
	for _, i := range order {
		starts[i] = startOf(l[i], end)
		if starts[i] < 0 {
			return nil, -1
		}
		end = starts[i] + l[i].Time
	}
	return starts, end
}

// ordersOf is all orders of n elements: each one of one element less, with the last one put at each place.
func ordersOf(n int) [][]int {
	if n == 0 {
		return [][]int{{}}
	}
	var out [][]int
	for _, order := range ordersOf(n - 1) {
		for at := range n {
			out = append(out, slices.Insert(slices.Clone(order), at, n-1))
		}
	}
	return out
}

// bestOf sorts all orders that are possible.
func bestOf(l []flight.Flight) []any {
	type timed struct {
		order []int
		end   int
	}
	var possible []timed
	for _, order := range ordersOf(len(l)) {
		if _, end := startsOf(l, order); end >= 0 {
			possible = append(possible, timed{order, end})
		}
	}
	if len(possible) == 0 {
		return all([]int{}, 0, api.ErrInfeasible)
	}
	slices.SortFunc(possible, func(a, b timed) int {
		if a.end != b.end {
			return a.end - b.end
		}
		return slices.Compare(a.order, b.order)
	})
	return all(possible[0].order, possible[0].end, api.OK)
}

// boundOf is the greatest one of the lists of what no order ends before.
func boundOf(l []flight.Flight) []any {
	bounds, starts, sum := []int{0}, []int{}, 0
	for _, f := range l {
		start := startOf(f, 0)
		if start < 0 {
			return all(0, api.ErrInfeasible)
		}
		bounds, starts, sum = append(bounds, start+f.Time), append(starts, start), sum+f.Time
	}
	if len(l) > 0 {
		bounds = append(bounds, sum+slices.Min(starts))
	}
	return all(slices.Max(bounds), api.OK)
}
