package ground_test

import (
	"fmt"
	"math"
	"math/big"
	"slices"
	"strings"
	"testing"

	"glideslope/api"
	"glideslope/ground"
)

// shown writes values so that all that is different looks different, but for nil and empty lists.
func shown(l ...any) string {
	return strings.ReplaceAll(fmt.Sprintf("%#v", l), "(nil)", "{}")
}

// same compares results with the expected ones.
func same(t *testing.T, what string, got, want []any) {
	t.Helper()
	if g, w := shown(got...), shown(want...); g != w {
		t.Errorf("%s:\n got %s\nwant %s", what, g, w)
	}
}

// all is its arguments as a list: the results of a call.
func all(l ...any) []any { return l }

// noPanic fails the test if a function panics.
func noPanic(t *testing.T, what string, f func()) {
	t.Helper()
	defer func() {
		if x := recover(); x != nil {
			t.Errorf("%s panics: %v", what, x)
		}
	}()
	f()
}

func gauss(re, im int) api.Gauss { return api.Gauss{Re: re, Im: im} }

func interval(low, high int) api.Interval { return api.Interval{Low: low, High: high} }

func point(x, y int) api.Point { return api.Point{X: x, Y: y} }

func vector(x, y, z int) api.Vector { return api.Vector{X: x, Y: y, Z: z} }

func box(re, im api.Interval) ground.Box { return ground.Box{Re: re, Im: im} }

// The sources, the plate and the mark of the chapter's examples: A, the one of example 5, P and M.
var (
	sourceA = ground.Source{At: vector(0, 0, 2), Carrier: gauss(10, 0), Sideband: gauss(2, 0)}
	sourceB = ground.Source{At: vector(0, 4, 2), Sideband: gauss(6, 0)}
	plateP  = ground.Plate{From: point(4, -2), To: point(4, 2), Height: 5, Factor: interval(100, 200)}
	markM   = vector(8, 0, 2)
)

// dark is a layer that lets nothing pass.
var dark = interval(0, 0)

// scene returns the scene of A, and of other sources, with a dark mirror.
func scene(others ...ground.Source) ground.Scene {
	return ground.Scene{Sources: append([]ground.Source{sourceA}, others...), Layers: []api.Interval{dark}}
}

// layered returns a scene with other layers.
func layered(x ground.Scene, l ...api.Interval) ground.Scene {
	x.Layers = l
	return x
}

// plated returns a scene with other plates.
func plated(x ground.Scene, l ...ground.Plate) ground.Scene {
	x.Plates = l
	return x
}

// example returns the scene of example 7.
func example() ground.Scene { return plated(scene(sourceB), plateP) }

// changed returns P after a change.
func changed(change func(p *ground.Plate)) ground.Plate {
	p := plateP
	change(&p)
	return p
}

// numbers is a row of numbers that look random, and are the same in each run.
type numbers struct{ x uint64 }

func (r *numbers) below(n int) int {
	r.x = r.x*6364136223846793005 + 1442695040888963407
	return int((r.x >> 33) % uint64(n))
}

// within returns a number from -most to most.
func (r *numbers) within(most int) int { return r.below(2*most+1) - most }

// interval returns an interval of numbers from 0 to 1000, often a short one.
func (r *numbers) interval() api.Interval {
	low := r.below(1001)
	return interval(low, min(1000, low+r.below([]int{1, 3, 1001}[r.below(3)])))
}

func (r *numbers) gauss(most int) api.Gauss { return gauss(r.within(most), r.within(most)) }

// place returns a place that is at most so far away; on a small scale, heights are small as well.
func (r *numbers) place(far int) api.Vector {
	return vector(r.within(far), r.within(far), r.below(min(far, 200)+1))
}

func (r *numbers) point(far int) api.Point { return point(r.within(far), r.within(far)) }

func (r *numbers) plate(far int) ground.Plate {
	for {
		p := ground.Plate{From: r.point(far), To: r.point(far), Height: 1 + r.below(min(far, 200)), Factor: r.interval(), Turn: r.below(4)}
		if p.From != p.To {
			return p
		}
	}
}

// scene returns a scene with at most so many plates, whose points are at most so far away.
func (r *numbers) scene(far, plates int) ground.Scene {
	var x ground.Scene
	for range 1 + r.below(6) {
		most := []int{1, 5, 100}[r.below(3)]
		x.Sources = append(x.Sources, ground.Source{At: r.place(far), Carrier: r.gauss(most), Sideband: r.gauss(most)})
	}
	for range r.below(5) {
		x.Layers = append(x.Layers, r.interval())
	}
	for range r.below(plates + 1) {
		x.Plates = append(x.Plates, r.plate(far))
	}
	return x
}

// far returns a scale of distances.
func (r *numbers) far() int { return []int{2, 5, 20, 1000}[r.below(4)] }

// marks returns 1 to n marks.
func (r *numbers) marks(far, n int) []api.Vector {
	var l []api.Vector
	for range 1 + r.below(n) {
		l = append(l, r.place(far))
	}
	return l
}

// factors returns factors of a scene.
func (r *numbers) factors(x ground.Scene) []int {
	var l []int
	for _, band := range bandsOf(x) {
		l = append(l, band.Low+r.below(band.High-band.Low+1))
	}
	return l
}

// The following functions are the definitions of the chapter, with integers, and with ratios of any size.

func ratOf(num, den int) *big.Rat { return big.NewRat(int64(num), int64(den)) }

// downOf is a ratio rounded down.
func downOf(x *big.Rat) int {
	return int(new(big.Int).Div(x.Num(), x.Denom()).Int64()) // Euclid's division rounds down, for the denominator is above 0
}

func limitedOf(n int) int { return max(-1000000, min(1000000, n)) }

func absolute(n int) int { return max(n, -n) }

func wayOf(a, b api.Vector) int {
	return absolute(a.X-b.X) + absolute(a.Y-b.Y) + absolute(a.Z-b.Z)
}

func mirrorOf(layers []api.Interval) api.Interval {
	m := interval(1000, 1000)
	for _, l := range layers {
		m = interval(m.Low*l.Low/1000, (m.High*l.High+999)/1000)
	}
	return m
}

func bandsOf(x ground.Scene) []api.Interval {
	l := []api.Interval{mirrorOf(x.Layers)}
	for _, p := range x.Plates {
		l = append(l, p.Factor)
	}
	return l
}

func greatestOf(x ground.Scene) []int {
	var l []int
	for _, band := range bandsOf(x) {
		l = append(l, band.High)
	}
	return l
}

// blocksOf finds the point of both lines where they meet, as ratios of them.
func blocksOf(p ground.Plate, a, b api.Vector) bool {
	dx, dy, ex, ey, fx, fy := b.X-a.X, b.Y-a.Y, p.To.X-p.From.X, p.To.Y-p.From.Y, p.From.X-a.X, p.From.Y-a.Y
	det := dx*ey - dy*ex
	if det == 0 {
		return false
	}
	nothing, whole := ratOf(0, 1), ratOf(1, 1)
	line, plate := ratOf(fx*ey-fy*ex, det), ratOf(fx*dy-fy*dx, det)
	for _, part := range []*big.Rat{line, plate} {
		if part.Cmp(nothing) <= 0 || part.Cmp(whole) >= 0 {
			return false
		}
	}
	height := line.Mul(line, ratOf(b.Z-a.Z, 1))
	height.Add(height, ratOf(a.Z, 1)).Abs(height)
	return height.Cmp(ratOf(p.Height, 1)) < 0
}

func blockingOf(x ground.Scene, from, mark api.Vector) []int {
	var l []int
	for i, p := range x.Plates {
		if blocksOf(p, from, mark) {
			l = append(l, i)
		}
	}
	return l
}

func imageOf(v api.Vector) api.Vector { return vector(v.X, v.Y, -v.Z) }

// arrived is a feed times i to the power of a way, times a factor.
func arrived(feed api.Gauss, way, factor int) api.Gauss {
	for range way % 4 {
		feed = gauss(-feed.Im, feed.Re)
	}
	return gauss(feed.Re*factor, feed.Im*factor)
}

func plus(a, b api.Gauss) api.Gauss { return gauss(a.Re+b.Re, a.Im+b.Im) }

func fieldsOf(x ground.Scene, factors []int, mark api.Vector) (carrier, sideband api.Gauss) {
	add := func(s ground.Source, way, factor int) {
		carrier = plus(carrier, arrived(s.Carrier, way, factor))
		sideband = plus(sideband, arrived(s.Sideband, way, factor))
	}
	for _, s := range x.Sources {
		if len(blockingOf(x, s.At, mark)) == 0 {
			add(s, wayOf(s.At, mark), 1000)
		}
		if len(blockingOf(x, imageOf(s.At), mark)) == 0 {
			add(s, wayOf(imageOf(s.At), mark), -factors[0])
		}
		for i, p := range x.Plates {
			edge := vector(p.From.X, p.From.Y, p.Height)
			add(s, wayOf(s.At, edge)+wayOf(edge, mark)+p.Turn, factors[1+i])
		}
	}
	return carrier, sideband
}

// needleOf is the needle of two fields, and whether there is one.
func needleOf(c, s api.Gauss) (int, bool) {
	if c == gauss(0, 0) {
		return 0, false
	}
	x := ratOf(s.Re*c.Re+s.Im*c.Im, c.Re*c.Re+c.Im*c.Im)
	return limitedOf(downOf(x.Mul(x, ratOf(1000, 1)))), true
}

// corners returns the factors of which each one is an end of its interval.
func corners(x ground.Scene) [][]int {
	l := [][]int{nil}
	for _, band := range bandsOf(x) {
		var longer [][]int
		for _, factors := range l {
			longer = append(longer, append(slices.Clone(factors), band.Low), append(slices.Clone(factors), band.High))
		}
		l = longer
	}
	return l
}

// boxesOf is the least boxes with the fields of all factors at the corners; each part is linear in each factor.
func boxesOf(x ground.Scene, mark api.Vector) [2]ground.Box {
	var parts [4][]int
	for _, factors := range corners(x) {
		c, s := fieldsOf(x, factors, mark)
		for i, n := range []int{c.Re, c.Im, s.Re, s.Im} {
			parts[i] = append(parts[i], n)
		}
	}
	var l [4]api.Interval
	for i, p := range parts {
		l[i] = interval(slices.Min(p), slices.Max(p))
	}
	return [2]ground.Box{box(l[0], l[1]), box(l[2], l[3])}
}

// boundsOf is the bounds of the needle of two boxes, and whether there are any.
func boundsOf(b [2]ground.Box) (api.Interval, bool) {
	var low, high, least, most int
	for _, x := range [][2]api.Interval{{b[0].Re, b[1].Re}, {b[0].Im, b[1].Im}} {
		c, s := x[0], x[1]
		products := []int{c.Low * s.Low, c.Low * s.High, c.High * s.Low, c.High * s.High}
		squares := []int{c.Low * c.Low, c.High * c.High}
		if c.Low <= 0 && c.High >= 0 {
			squares = append(squares, 0)
		}
		low, high = low+slices.Min(products), high+slices.Max(products)
		least, most = least+slices.Min(squares), most+slices.Max(squares)
	}
	if least == 0 {
		return api.Interval{}, false
	}
	// the least and the greatest quotient of all ends
	var quotients []int
	for _, n := range []int{low, high} {
		for _, d := range []int{least, most} {
			x := ratOf(n, d)
			quotients = append(quotients, downOf(x.Mul(x, ratOf(1000, 1))))
		}
	}
	return interval(limitedOf(slices.Min(quotients)), limitedOf(slices.Max(quotients))), true
}

// lessOf is a scene without a plate.
func lessOf(x ground.Scene, plate int) ground.Scene {
	var l []ground.Plate
	for i, p := range x.Plates {
		if i != plate {
			l = append(l, p)
		}
	}
	return plated(x, l...)
}

func bendOf(x ground.Scene, plate int, mark api.Vector) int {
	less := lessOf(x, plate)
	a, is := needleOf(fieldsOf(x, greatestOf(x), mark))
	b, isLess := needleOf(fieldsOf(less, greatestOf(less), mark))
	if !is || !isLess {
		return 2000000
	}
	return absolute(a - b)
}

// shareOf is the share of a plate, with its mark.
func shareOf(x ground.Scene, plate int, marks []api.Vector) (bend, at int) {
	bend = -1
	for i, mark := range marks {
		if b := bendOf(x, plate, mark); b > bend {
			bend, at = b, i
		}
	}
	return bend, at
}

// movedOf is a plate that is moved to a point, and whether it can be.
func movedOf(p ground.Plate, to api.Point) (ground.Plate, bool) {
	p.To = point(p.To.X-p.From.X+to.X, p.To.Y-p.From.Y+to.Y)
	p.From = to
	return p, max(absolute(p.To.X), absolute(p.To.Y)) <= 1000
}

// addedOf is a scene with a plate more.
func addedOf(x ground.Scene, p ground.Plate) ground.Scene {
	return plated(x, append(slices.Clone(x.Plates), p)...)
}

// The following functions return arguments with their errors.

// bad is an argument with its error.
type bad[T any] struct {
	x T
	e api.Errno
}

var far = []int{-1001, 1001, math.MinInt, math.MaxInt, 1 << 32}

// badPoints returns points with their errors.
func badPoints() []bad[api.Point] {
	var out []bad[api.Point]
	for _, n := range far {
		out = append(out, bad[api.Point]{point(n, 0), api.ErrRange}, bad[api.Point]{point(0, n), api.ErrRange})
	}
	return out
}

// badVectors returns vectors with their errors.
func badVectors() []bad[api.Vector] {
	var out []bad[api.Vector]
	for _, n := range far {
		for _, v := range []api.Vector{vector(n, 0, 0), vector(0, n, 0), vector(0, 0, n)} {
			out = append(out, bad[api.Vector]{v, api.ErrRange})
		}
	}
	return out
}

// badPlaces returns places with their errors.
func badPlaces() []bad[api.Vector] {
	return append(badVectors(), bad[api.Vector]{vector(0, 0, -1), api.ErrRange}, bad[api.Vector]{vector(0, 0, 201), api.ErrRange})
}

// badMarks returns the marks of approaches with their errors.
func badMarks() []bad[[]api.Vector] {
	out := []bad[[]api.Vector]{
		{nil, api.ErrEmpty}, {[]api.Vector{}, api.ErrEmpty},
		{slices.Repeat([]api.Vector{markM}, 33), api.ErrMany}, {slices.Repeat([]api.Vector{vector(0, 0, -1)}, 33), api.ErrMany},
	}
	for _, x := range badPlaces() {
		out = append(out, bad[[]api.Vector]{[]api.Vector{markM, x.x}, x.e}, bad[[]api.Vector]{[]api.Vector{x.x, markM}, x.e})
	}
	return out
}

// badFactors returns intervals of factors with their errors.
func badFactors() []bad[api.Interval] {
	return []bad[api.Interval]{
		{interval(-1, 0), api.ErrRange}, {interval(0, -1), api.ErrRange}, {interval(1001, 1001), api.ErrRange}, {interval(0, 1001), api.ErrRange}, {interval(1001, 0), api.ErrRange},
		{interval(math.MinInt, math.MaxInt), api.ErrRange}, {interval(math.MaxInt, math.MinInt), api.ErrRange},
		{interval(1, 0), api.ErrOrder}, {interval(1000, 999), api.ErrOrder}, {interval(1000, 0), api.ErrOrder},
	}
}

// badLayers returns layers with their errors.
func badLayers() []bad[[]api.Interval] {
	out := []bad[[]api.Interval]{
		{make([]api.Interval, 5), api.ErrMany}, {slices.Repeat([]api.Interval{interval(1, 0)}, 5), api.ErrMany},
		{[]api.Interval{interval(1, 0), interval(-1, 0)}, api.ErrOrder}, {[]api.Interval{interval(-1, 0), interval(1, 0)}, api.ErrRange},
	}
	for _, x := range badFactors() {
		out = append(out, bad[[]api.Interval]{[]api.Interval{dark, x.x}, x.e})
	}
	return out
}

// badPlates returns single plates with their errors.
func badPlates() []bad[ground.Plate] {
	var out []bad[ground.Plate]
	add := func(e api.Errno, change func(p *ground.Plate)) {
		out = append(out, bad[ground.Plate]{changed(change), e})
	}
	for _, x := range badPoints() {
		add(x.e, func(p *ground.Plate) { p.From = x.x })
		add(x.e, func(p *ground.Plate) { p.To = x.x })
		add(api.ErrRange, func(p *ground.Plate) { p.From, p.To = x.x, x.x }) // before ErrForm
	}
	add(api.ErrForm, func(p *ground.Plate) { p.To = p.From })
	add(api.ErrForm, func(p *ground.Plate) { *p = ground.Plate{Turn: 4} }) // before the height, the factor and the turn
	for _, n := range []int{math.MinInt, -1, 0, 201, math.MaxInt} {
		add(api.ErrRange, func(p *ground.Plate) { p.Height = n })
		add(api.ErrRange, func(p *ground.Plate) { p.Height, p.Factor = n, interval(1, 0) }) // before ErrOrder
	}
	for _, x := range badFactors() {
		add(x.e, func(p *ground.Plate) { p.Factor = x.x })
		add(x.e, func(p *ground.Plate) { p.Factor, p.Turn = x.x, 4 })
	}
	for _, n := range []int{math.MinInt, -1, 4, math.MaxInt} {
		add(api.ErrRange, func(p *ground.Plate) { p.Turn = n })
	}
	return out
}

// badPlateLists returns plates with their errors.
func badPlateLists() []bad[[]ground.Plate] {
	flat := changed(func(p *ground.Plate) { p.To = p.From })
	out := []bad[[]ground.Plate]{
		{slices.Repeat([]ground.Plate{plateP}, 7), api.ErrMany}, {make([]ground.Plate, 7), api.ErrMany},
		{[]ground.Plate{flat, changed(func(p *ground.Plate) { p.Turn = 4 })}, api.ErrForm}, {[]ground.Plate{changed(func(p *ground.Plate) { p.Turn = 4 }), flat}, api.ErrRange},
	}
	for _, x := range badPlates() {
		out = append(out, bad[[]ground.Plate]{[]ground.Plate{x.x}, x.e}, bad[[]ground.Plate]{[]ground.Plate{plateP, x.x, plateP}, x.e})
	}
	return out
}

// badScenes returns scenes with their errors.
func badScenes() []bad[ground.Scene] {
	sources := func(l ...ground.Source) ground.Scene { x := example(); x.Sources = l; return x }
	out := []bad[ground.Scene]{
		{ground.Scene{}, api.ErrEmpty}, {sources(), api.ErrEmpty}, {sources(slices.Repeat([]ground.Source{sourceA}, 7)...), api.ErrMany}, {sources(slices.Repeat([]ground.Source{{At: vector(0, 0, -1)}}, 7)...), api.ErrMany},
		// sources come before layers, and layers before plates
		{ground.Scene{Layers: make([]api.Interval, 5), Plates: make([]ground.Plate, 1)}, api.ErrEmpty},
		{ground.Scene{Sources: []ground.Source{{At: vector(0, 0, -1)}}, Layers: make([]api.Interval, 5), Plates: make([]ground.Plate, 1)}, api.ErrRange},
		{plated(layered(example(), interval(1, 0)), make([]ground.Plate, 7)...), api.ErrOrder},
		{plated(layered(example(), make([]api.Interval, 5)...), make([]ground.Plate, 1)...), api.ErrMany},
	}
	for _, x := range badPlaces() {
		out = append(out, bad[ground.Scene]{sources(sourceA, ground.Source{At: x.x}), x.e})
	}
	for _, n := range []int{-101, 101, math.MinInt, math.MaxInt} {
		for _, g := range []api.Gauss{gauss(n, 0), gauss(0, n)} {
			out = append(out, bad[ground.Scene]{sources(sourceA, ground.Source{Carrier: g}), api.ErrRange}, bad[ground.Scene]{sources(ground.Source{Sideband: g}, sourceA), api.ErrRange})
		}
	}
	for _, x := range badLayers() {
		out = append(out, bad[ground.Scene]{layered(example(), x.x...), x.e})
	}
	for _, x := range badPlateLists() {
		out = append(out, bad[ground.Scene]{plated(example(), x.x...), x.e})
	}
	return out
}

// badLimits are limits that are not in their range.
var badLimits = []int{math.MinInt, -1, 2000001, math.MaxInt}

// badIndices returns what is no index of n elements.
func badIndices(n int) []int { return []int{math.MinInt, -1, n, n + 1, math.MaxInt} }

// full returns a scene with as many plates as there may be.
func full() ground.Scene { return plated(example(), slices.Repeat([]ground.Plate{plateP}, 6)...) }
