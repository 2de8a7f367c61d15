package release_test

import (
	"math"
	"slices"
	"testing"

	"glideslope/api"
	"glideslope/release"
)

// The tests of this file are those of P9.5, and of the rules that hold for all functions: P1, memory and determinism.

func TestBetterWeather(t *testing.T) {
	r := numbers{13}
	better, none := 0, 0
	for range 5000 {
		x := r.runway(60)
		w := r.weather(x, 60)
		more := with(w, func(w *release.Weather) {
			for i := range w.Views {
				w.Views[i] += r.upTo(20)
			}
			w.Ceiling += r.upTo(20)
		})
		before, e := release.Needed(x, w)
		after, again := release.Needed(x, more)
		same(t, "Needed", all(x, w, more, e, again, before == 0 || 0 < after && after <= before), all(x, w, more, api.OK, api.OK, true))
		if before == 0 {
			none++
		} else if after < before {
			better++
		}
	}
	same(t, "are there both", all(better > 300, none > 300), all(true, true))
}

func TestBetterEquipment(t *testing.T) {
	r := numbers{15}
	greater := 0
	for range 5000 {
		x := r.runway(60)
		y := r.equipment(x)
		more := release.Equipment{Signal: min(3, y.Signal+r.below(2)), Lights: min(3, y.Lights+r.below(2)), Switch: max(0, y.Switch-r.below(9)), Standby: y.Standby || r.is(2)}
		before, e := release.Capable(x, y)
		after, again := release.Capable(x, more)
		same(t, "Capable", all(x, y, more, e, again, before <= after), all(x, y, more, api.OK, api.OK, true))
		if after > before {
			greater++
		}
	}
	same(t, "is there a greater one", all(greater > 300), all(true))
}

func TestPermittedByCategories(t *testing.T) {
	r := numbers{17}
	counts := map[bool]int{}
	for range 8000 {
		x := r.runway(60)
		w, y, limits := r.weather(x, 60), r.equipment(x), [2]int{r.upTo(3), r.upTo(3)}
		category, reasons, e := release.Permitted(x, w, y, limits)
		has, again := release.Capable(x, y)
		is := 0 < category && category <= min(has, limits[0], limits[1])
		same(t, "Permitted", all(x, w, y, limits, e, again, len(reasons) == 0), all(x, w, y, limits, api.OK, api.OK, is))
		counts[is]++
	}
	same(t, "are there both", all(counts[true] > 300, counts[false] > 300), all(true, true))
}

func TestInForceWithAllConditions(t *testing.T) {
	r := numbers{19}
	counts := map[int]int{}
	for range 3000 {
		x := r.rule(20)
		l := r.moments(x, 256, 20)
		steps, e := release.Steps(x, l)
		spans, again := release.Forced(x, l)
		same(t, "Steps, Forced", all(e, again, len(steps)), all(api.OK, api.OK, len(l)))
		before := release.Normal
		for i, step := range steps {
			is := slices.ContainsFunc(spans, func(s api.Span) bool { return s.From <= i && i < s.To })
			changed, holds := max(step-before, before-step), l[i].Clear && l[i].Staffed && l[i].Lit
			if is != (step == release.InForce) || is && !holds || changed > 1 {
				t.Errorf("by %v at %v the step after the moment %d is %d, in force %v, after the step %d", x, l, i, step, is, before)
			}
			before = step
			counts[changed]++
		}
	}
	same(t, "are there both", all(counts[0] > 10000, counts[1] > 10000), all(true, true))
}

func TestToldByItsDraft(t *testing.T) {
	r := numbers{21}
	drafts := 0
	for range 5000 {
		c, ahead, until := r.change(100), r.upTo(40), r.upTo(200)
		l := r.notices(8, 60)
		n, e := release.Drafted(c, 1+r.below(5), ahead, until)
		if e != api.OK {
			same(t, "Drafted", all(c, ahead, until, e), all(c, ahead, until, map[bool]api.Errno{true: api.ErrShort, false: api.ErrOrder}[c.Tick < ahead]))
			continue
		}
		drafts++
		same(t, "Unannounced of a draft", all(n, unannounced([]release.Change{c}, []release.Notice{n}, ahead)), all(n, all(indices(), api.OK)))
		same(t, "Unannounced of a draft, one tick more", all(n, unannounced([]release.Change{c}, []release.Notice{n}, ahead+1)), all(n, all(indices(0), api.OK)))
		for i := range l {
			l[i].Number += 5
		}
		further := append([]release.Notice{n}, l...)
		for range 10 {
			tick, most := c.Tick+r.below(until-c.Tick), r.below(4)
			left, e := release.Category(further, c.Runway, most, tick)
			same(t, "Category after a change", all(c, n, tick, e, left <= min(most, c.Category)), all(c, n, tick, api.OK, true))
			name, tick := r.name(), r.below(150)
			before, e := release.Category(l, name, most, tick)
			after, again := release.Category(further, name, most, tick)
			same(t, "Category with a further notice", all(l, n, name, tick, e, again, after <= before), all(l, n, name, tick, api.OK, api.OK, true))
		}
	}
	same(t, "are there drafts", all(drafts > 1000), all(true))
}

func TestNoNightIsWorthMore(t *testing.T) {
	r := numbers{23}
	for range 1000 {
		l := r.works(8, 12)
		length := r.below(40)
		works, worth, e := release.Night(l, length)
		is := slices.ContainsFunc(nightsOf(l, length), func(night []int) bool { return slices.Equal(night, works) })
		same(t, "Night", all(l, length, e, is, worth), all(l, length, api.OK, true, worthOf(l, works)))
		for _, night := range nightsOf(l, length) {
			if worthOf(l, night) > worth {
				t.Errorf("of %v in a night of %d %v is worth more than %v", l, length, night, works)
			}
		}
		for price := range 14 {
			bound, e := release.Bound(l, length, price)
			same(t, "Bound", all(l, length, price, e, worth <= bound), all(l, length, price, api.OK, true))
		}
	}
}

func TestReadAsWritten(t *testing.T) {
	r := numbers{25}
	for range 1000 {
		for _, n := range r.notices(32, []int{20, 30000000}[r.below(2)]) {
			f, e := release.Fields(n)
			same(t, "Read", all(n, e, read(f)), all(n, api.OK, all(n, api.OK)))
		}
	}
}

// P1: no function panics, whatever its arguments are.
func TestNoPanics(t *testing.T) {
	ints := []int{math.MinInt, -1000000000, -1, 0, 1, 3, 60, 10000, 100000001, math.MaxInt}
	for _, a := range ints {
		for _, b := range ints {
			weathers := []release.Weather{{}, weather(a, b, a, b), weather(1, 2, a, b), weather(60, 50, 40, 30)}
			equipments := []release.Equipment{{}, equipment(a, b, a), supplied(1, 1, b), supplied(3, 3, 1)}
			noPanic(t, "landings", func() {
				for i, w := range weathers {
					for k, x := range equipments {
						for _, y := range []release.Runway{{}, runwayR, {Name: "a"}, {Name: "a", Minima: [3]release.Weather{w, weathers[3-i], w}, Needs: [3]release.Equipment{x, x, equipments[3-k]}}, {Name: "a", Needs: [3]release.Equipment{x, x, x}}} {
							release.CheckRunway(y)
							release.Needed(y, w)
							release.Capable(y, x)
							release.Permitted(y, w, x, [2]int{a, b})
							release.Permitted(y, w, x, [2]int{})
						}
					}
				}
			})
			noPanic(t, "steps", func() {
				for _, x := range []release.Rule{{}, ruleS, rule(a, b, a, b), rule(b, b, b, a), rule(0, 0, 0, a), rule(1, 0, 3, 1)} {
					for _, l := range [][]release.Moment{nil, {{}}, {{View: a}}, moments(a, b), moments(b, 500, 500), moments4, make([]release.Moment, 256), make([]release.Moment, 10000)} {
						release.CheckRule(x)
						release.Steps(x, l)
						release.Forced(x, l)
						release.Blocked(x, l)
					}
				}
			})
			noPanic(t, "notices", func() {
				for _, l := range [][]release.Notice{nil, {{}}, {notice(a, "a", b, a, b, a)}, {notice(5, "a", 0, a, b, 0)}, {notice(5, "a", 0, 5, 9, 0), notice(b, "a", 0, 5, 9, a)}, noticesN, make([]release.Notice, 10000)} {
					release.CheckNotices(l)
					release.Print(l)
					release.Category(l, "r9", a, b)
					release.Category(l, "", 0, 0)
					for _, n := range l[:min(3, len(l))] {
						release.Fields(n)
					}
					for _, changes := range [][]release.Change{nil, {{}}, {change("a", a, b)}, {change6, change("", b, a)}, {change6, change6}, make([]release.Change, 10000)} {
						release.Unannounced(changes, l, a)
						release.Unannounced(changes, l, 0)
						for _, c := range changes[:min(3, len(changes))] {
							release.Drafted(c, 9, a, b)
							release.Drafted(c, b, 0, a)
						}
					}
				}
			})
			noPanic(t, "works", func() {
				for _, l := range [][]release.Work{nil, {{}}, {work("a", "a", a, b)}, {work("a", "a", 1, b), work("b", "a", a, 1)}, {work("", "", 1, 1)}, works7, manyWorks(8), make([]release.Work, 10000)} {
					release.CheckWorks(l)
					release.Night(l, a)
					release.Night(l, 60)
					release.Bound(l, a, b)
					release.Bound(l, 60, b)
				}
			})
		}
	}
	r := numbers{27}
	for range 5000 {
		s := make([]byte, r.below(60))
		for i := range s {
			s[i] = []byte{' ', ' ', '\n', '-', '0', '1', 'a', byte(r.below(256))}[r.below(8)]
		}
		noPanic(t, "Parse, Read", func() {
			release.Parse(string(s))
			release.Parse("notice 1 a 2 3" + string(s))
			release.Read([6]string{string(s), "a", "0", "0", "1", "0"})
			release.Read([6]string{"1", string(s), "0", "0", "1", "0"})
			release.Read([6]string{"1", "a", "0", "0", "1", string(s)})
		})
	}
}

// Arguments stay as they are, and a result that is changed changes neither an argument nor a later result.
func TestMemory(t *testing.T) {
	// what is behind a list is not written to
	moments, notices, works := slices.Clone(moments4)[:7], manyNotices(32)[:20], manyWorks(8)[:6]
	changes := append(make([]release.Change, 0, 8), change6, change("n0", 0, 1), change("n1", 5, 1))
	kept := func() string { return shown(moments[:9], notices[:32], works[:8], changes[:8]) }
	before := kept()
	once := func() string {
		_, reasons, _ := release.Permitted(runwayR, weather(320, 200, 100, 40), supplied(3, 1, 10), [2]int{3, 1})
		steps, _ := release.Steps(ruleS, moments)
		spans, _ := release.Forced(ruleS, moments)
		words, _ := release.Blocked(ruleS, moments)
		untold, _ := release.Unannounced(changes, notices, 1)
		night, worth, _ := release.Night(works, 10)
		text, _ := release.Print(notices)
		again, _, _ := release.Parse(text)
		same(t, "are there results", all(len(reasons), len(steps), len(spans), len(words), len(words[2]), len(untold), len(night), len(again)), all(3, 7, 2, 7, 1, 2, 2, 20))
		out := shown(reasons, steps, spans, words, untold, night, worth, text, again, bounded(works, 10, 5), left(notices, "n0", 3, 10))
		for _, l := range append(words, reasons) {
			clear(l[:cap(l)])
		}
		clear(steps[:cap(steps)])
		clear(spans[:cap(spans)])
		clear(words[:cap(words)])
		clear(untold[:cap(untold)])
		clear(night[:cap(night)])
		clear(again[:cap(again)])
		return out
	}
	want := once()
	for range 5 {
		same(t, "results again", all(once()), all(want))
	}
	same(t, "arguments", all(kept()), all(before))
}

// Results do not depend on the order of the maps in which names are found.
func TestDeterminism(t *testing.T) {
	l := []release.Work{work("a", "r1", 1, 5), work("b", "r2", 1, 5), work("c", "r3", 1, 5), work("d", "r1", 1, 1), work("e", "r2", 1, 1), work("f", "r3", 1, 1)}
	for range 50 {
		same(t, "Night, Bound", all(best(l, 1), bounded(l, 5, 2), release.CheckWorks(append(l, l[3]))), all(all(indices(0), 5, api.OK), all(13, api.OK), api.ErrTwice))
	}
}
