package area_test

import (
	"fmt"
	"math"
	"math/big"
	"slices"
	"strings"
	"testing"

	"glideslope/api"
	"glideslope/area"
)

// shown writes values so that all that is different looks different, but for nil and empty lists.
func shown(l ...any) string {
	return strings.ReplaceAll(fmt.Sprintf("%#v", l), "(nil)", "{}")
}

// same compares results with the expected ones.
func same(t *testing.T, what string, got, want []any) {
	t.Helper()
	if g, w := shown(got...), shown(want...); g != w {
		t.Errorf("%s:\n got %s\nwant %s", what, g, w)
	}
}

// all is its arguments as a list: the results of a call.
func all(l ...any) []any { return l }

// noPanic fails the test if a function panics.
func noPanic(t *testing.T, what string, f func()) {
	t.Helper()
	defer func() {
		if x := recover(); x != nil {
			t.Errorf("%s panics: %v", what, x)
		}
	}()
	f()
}

func point(x, y int) api.Point { return api.Point{X: x, Y: y} }

// polygon returns the points of pairs of numbers.
func polygon(l ...int) []api.Point {
	var out []api.Point
	for i := 0; i < len(l); i += 2 {
		out = append(out, point(l[i], l[i+1]))
	}
	return out
}

func box(lowX, lowY, highX, highY int) area.Box {
	return area.Box{Low: point(lowX, lowY), High: point(highX, highY)}
}

func span(from, to int) api.Span { return api.Span{From: from, To: to} }

type spacing = [3][3]int

// even returns the spacing with the same ticks everywhere.
func even(n int) spacing { return spacing{{n, n, n}, {n, n, n}, {n, n, n}} }

// The triangle, the areas, the landings, the move, the flights and the spacing of the chapter's examples.
var (
	triangle = polygon(0, 0, 6, 0, 0, 6)
	crit     = area.Area{Name: "crit", Size: 1, Category: 1, Polygon: triangle}
	sens     = area.Area{Name: "sens", Size: 2, Category: 2, Polygon: polygon(0, 0, 10, 0, 10, 10, 0, 10)}
	areas    = []area.Area{crit, sens}
	landings = []area.Landing{{Name: "l1", Category: 1, Ticks: span(10, 20)}, {Name: "l2", Category: 2, Ticks: span(30, 40)}}
	moveM    = area.Move{Name: "m", Size: 2, Box: box(7, 7, 8, 8), Ticks: span(15, 35)}
	holds    = []area.Hold{{Name: "h", At: point(5, 5)}}
	flights  = []area.Flight{{Name: "a", Kind: 0, Ready: 0}, {Name: "b", Kind: 1, Ready: 1}, {Name: "c", Kind: 0, Ready: 2}}
	table    = spacing{{3, 5, 4}, {2, 3, 4}, {4, 4, 4}}
)

// with returns a value after a change.
func with[T any](x T, change func(x *T)) T {
	change(&x)
	return x
}

// numbers is a row of numbers that look random, and are the same in each run.
type numbers struct{ x uint64 }

func (r *numbers) below(n int) int {
	r.x = r.x*6364136223846793005 + 1442695040888963407
	return int((r.x >> 33) % uint64(n))
}

// within returns a number from -most to most.
func (r *numbers) within(most int) int { return r.below(2*most+1) - most }

// far returns a scale of distances.
func (r *numbers) far() int { return []int{2, 5, 20, 1000000}[r.below(4)] }

func (r *numbers) point(far int) api.Point { return point(r.within(far), r.within(far)) }

// polygon returns a polygon that begins at any of its corners.
func (r *numbers) polygon(far int) []api.Point {
	for {
		var l []api.Point
		for range 3 + r.below(12) {
			l = append(l, r.point(far))
		}
		if l = hullOf(l); len(l) >= 3 && len(l) <= 8 {
			first := r.below(len(l))
			return append(slices.Clone(l[first:]), l[:first]...)
		}
	}
}

// box returns a box, often a small or a flat one.
func (r *numbers) box(far int) area.Box {
	size := []int{1, 3, far + 1}[r.below(3)]
	low := r.point(far)
	return area.Box{Low: low, High: point(min(low.X+r.below(size), 1000000), min(low.Y+r.below(size), 1000000))}
}

// span returns a span of ticks from 0 to 40.
func (r *numbers) span() api.Span {
	from := r.below(39)
	return span(from, from+1+r.below([]int{2, 40 - from}[r.below(2)]))
}

func nameOf(i int) string { return fmt.Sprintf("n%d", i) }

// small returns a number from 0 to most, mostly a small one.
func (r *numbers) small(most int) int { return r.below(1 + r.below(most+1)) }

// areas returns at most n areas.
func (r *numbers) areas(far, n int) []area.Area {
	var l []area.Area
	for i := range r.below(n + 1) {
		l = append(l, area.Area{Name: nameOf(i), Size: r.small(3), Category: 1 + r.small(2), Polygon: r.polygon(far)})
	}
	return l
}

// landings returns at most n landings.
func (r *numbers) landings(n int) []area.Landing {
	var l []area.Landing
	for i := range r.below(n + 1) {
		l = append(l, area.Landing{Name: nameOf(i), Category: 3 - r.small(2), Ticks: r.span()})
	}
	return l
}

// moves returns at most n moves.
func (r *numbers) moves(far, n int) []area.Move {
	var l []area.Move
	for i := range r.below(n + 1) {
		l = append(l, area.Move{Name: nameOf(i), Size: 3 - r.small(3), Box: r.box(far), Ticks: r.span()})
	}
	return l
}

// move returns a single move.
func (r *numbers) move(far int) area.Move {
	return area.Move{Name: "x", Size: 3 - r.small(3), Box: r.box(far), Ticks: r.span()}
}

// flights returns 1 to n flights.
func (r *numbers) flights(n int) []area.Flight {
	var l []area.Flight
	late := []int{1, 10, 30, 100000001}[r.below(4)]
	for i := range 1 + r.below(n) {
		l = append(l, area.Flight{Name: nameOf(i), Kind: r.below(3), Ready: r.below(late)})
	}
	return l
}

func (r *numbers) spacing() spacing {
	var out spacing
	most := []int{1, 3, 20, 10001}[r.below(4)]
	for i := range out {
		for j := range out[i] {
			out[i][j] = r.below(most)
		}
	}
	return out
}

// The following functions are the definitions of the chapter in other words: with the hull of points, with ratios of any size, tick by tick, and with all orders.

func crossOf(a, b, c api.Point) int { return (b.X-a.X)*(c.Y-a.Y) - (b.Y-a.Y)*(c.X-a.X) }

func comparePoints(a, b api.Point) int {
	if a.X != b.X {
		return a.X - b.X
	}
	return a.Y - b.Y
}

// hullOf is the corners of the least convex polygon that has all points, to the left, from the least one on.
func hullOf(points []api.Point) []api.Point {
	l := slices.Clone(points)
	slices.SortFunc(l, comparePoints)
	l = slices.Compact(l)
	half := func() []api.Point {
		var out []api.Point
		for _, p := range l {
			for len(out) > 1 && crossOf(out[len(out)-2], out[len(out)-1], p) <= 0 {
				out = out[:len(out)-1]
			}
			out = append(out, p)
		}
		return out[:len(out)-1]
	}
	lower := half()
	slices.Reverse(l)
	return append(lower, half()...)
}

// isPolygonOf reports whether points are the hull of themselves, from any of its corners on.
func isPolygonOf(l []api.Point) bool {
	hull := hullOf(l)
	if len(hull) != len(l) || len(hull) < 3 {
		return false
	}
	first := slices.Index(l, hull[0])
	return slices.Equal(append(slices.Clone(l[first:]), l[:first]...), hull)
}

func absolute(n int) int { return max(n, -n) }

// sizeOf is the sum of the sizes of the triangles that the diagonals from the first corner make.
func sizeOf(l []api.Point) int {
	size := 0
	for i := 2; i < len(l); i++ {
		size += crossOf(l[0], l[i-1], l[i])
	}
	return size
}

// inOf reports whether a polygon is as large as all triangles of an edge and a point.
func inOf(l []api.Point, p api.Point) bool {
	sum := 0
	for i, a := range l {
		sum += absolute(crossOf(a, l[(i+1)%len(l)], p))
	}
	return sum == sizeOf(l)
}

// rational is a point of ratios.
type rational [2]*big.Rat

// clipped is the part of a polygon whose coordinate on an axis, times a sign, is at most a limit, times the sign.
func clipped(l []rational, axis int, sign, limit int64) []rational {
	above := func(p rational) *big.Rat {
		d := new(big.Rat).Sub(p[axis], big.NewRat(limit, 1))
		return d.Mul(d, big.NewRat(sign, 1))
	}
	var out []rational
	for i, p := range l {
		before := l[(i+len(l)-1)%len(l)]
		a, b := above(before), above(p)
		if a.Sign()*b.Sign() < 0 {
			part := new(big.Rat).Quo(a, new(big.Rat).Sub(a, b))
			var cut rational
			for k := range cut {
				cut[k] = new(big.Rat).Sub(p[k], before[k])
				cut[k].Mul(cut[k], part).Add(cut[k], before[k])
			}
			out = append(out, cut)
		}
		if b.Sign() <= 0 {
			out = append(out, p)
		}
	}
	return out
}

// meetsOf reports whether anything is left of a polygon if all that is not in a box is cut off.
func meetsOf(l []api.Point, b area.Box) bool {
	var left []rational
	for _, p := range l {
		left = append(left, rational{big.NewRat(int64(p.X), 1), big.NewRat(int64(p.Y), 1)})
	}
	for axis, ends := range [2][2]int{{b.Low.X, b.High.X}, {b.Low.Y, b.High.Y}} {
		left = clipped(left, axis, -1, int64(ends[0]))
		left = clipped(left, axis, 1, int64(ends[1]))
	}
	return len(left) > 0
}

// isMetOf reports whether an area that applies to both is met.
func isMetOf(a area.Area, n area.Landing, m area.Move) bool {
	return m.Size >= a.Size && n.Category >= a.Category && meetsOf(a.Polygon, m.Box)
}

func isIn(tick int, s api.Span) bool { return s.From <= tick && tick < s.To }

// conflictsOf is all conflicts, for spans of ticks up to 40.
func conflictsOf(areas []area.Area, landings []area.Landing, moves []area.Move) []area.Conflict {
	var out []area.Conflict
	for i, n := range landings {
		for j, m := range moves {
			meet := false
			for tick := range 41 {
				meet = meet || isIn(tick, n.Ticks) && isIn(tick, m.Ticks)
			}
			for k, a := range areas {
				if meet && isMetOf(a, n, m) {
					out = append(out, area.Conflict{Landing: i, Move: j, Area: k})
				}
			}
		}
	}
	return out
}

// isClearOf reports whether no conflict has a tick in both of its spans.
func isClearOf(areas []area.Area, landings []area.Landing, moves []area.Move, tick int) bool {
	for _, c := range conflictsOf(areas, landings, moves) {
		if isIn(tick, landings[c.Landing].Ticks) && isIn(tick, moves[c.Move].Ticks) {
			return false
		}
	}
	return true
}

// earliestOf tries tick by tick.
func earliestOf(areas []area.Area, landings []area.Landing, m area.Move) int {
	taken := map[int]bool{}
	for _, n := range landings {
		for _, a := range areas {
			if isMetOf(a, n, m) {
				for tick := n.Ticks.From; tick < n.Ticks.To; tick++ {
					taken[tick] = true
				}
			}
		}
	}
	for from := m.Ticks.From; ; from++ {
		free := true
		for i := range m.Ticks.To - m.Ticks.From {
			free = free && !taken[from+i]
		}
		if free {
			return from
		}
	}
}

// timesOf is the times of an order.
func timesOf(l []area.Flight, table spacing, order []int) []int {
	var out []int
	for k, i := range order {
		time := l[i].Ready
		if k > 0 {
			time = max(time, out[k-1]+table[l[order[k-1]].Kind][l[i].Kind])
		}
		out = append(out, time)
	}
	return out
}

func delayOf(l []area.Flight, table spacing, order []int) int {
	sum := 0
	for _, time := range timesOf(l, table, order) {
		sum += time
	}
	for _, f := range l {
		sum -= f.Ready
	}
	return sum
}

// ordersOf returns all orders of n flights, compared index by index.
func ordersOf(n int) [][]int {
	l := [][]int{{}}
	for range n {
		var longer [][]int
		for _, order := range l {
			for i := range n {
				if !slices.Contains(order, i) {
					longer = append(longer, append(slices.Clone(order), i))
				}
			}
		}
		l = longer
	}
	return l
}

// bestOf is the first order with the least delay.
func bestOf(l []area.Flight, table spacing) ([]int, int) {
	return firstOf(ordersOf(len(l)), func(order []int) int { return delayOf(l, table, order) })
}

// firstOf returns the first element with the least number, and this.
func firstOf[T any](l []T, number func(T) int) (T, int) {
	best, least := l[0], math.MaxInt
	for _, x := range l {
		if n := number(x); n < least {
			best, least = x, n
		}
	}
	return best, least
}

// boundOf is the least delay of all orders if all spacings are as the least one, which is that by the ready ticks.
func boundOf(l []area.Flight, table spacing) int {
	var ready []int
	for _, f := range l {
		ready = append(ready, f.Ready)
	}
	slices.Sort(ready)
	s, time, sum := slices.Min(slices.Concat(table[0][:], table[1][:], table[2][:])), ready[0], 0
	for _, n := range ready[1:] {
		time = max(n, time+s)
		sum += time - n
	}
	return sum
}
