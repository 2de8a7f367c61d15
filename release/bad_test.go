package release_test

import (
	"fmt"
	"math"
	"slices"
	"strings"
	"testing"

	"glideslope/api"
	"glideslope/release"
)

// The functions of this file return arguments with their errors.

// bad is an argument with its error.
type bad[T any] struct {
	x T
	e api.Errno
}

// argument is an argument of a function: a good one, and others with their errors.
type argument struct {
	good any
	bad  []bad[any]
}

func argumentOf[T any](good T, l []bad[T]) argument {
	a := argument{good: good}
	for _, x := range l {
		a.bad = append(a.bad, bad[any]{x.x, x.e})
	}
	return a
}

// checkErrors calls a function with each bad argument, all before it good, and those after it all good or all bad. It returns results of its type beside the error.
func checkErrors(t *testing.T, what string, call func(a []any) []any, nothing []any, arguments ...argument) {
	t.Helper()
	for i, a := range arguments {
		for _, x := range a.bad {
			for k := range 2 {
				l := make([]any, len(arguments))
				for j, b := range arguments {
					l[j] = b.good
					if j > i && k == 1 && len(b.bad) > 0 {
						l[j] = b.bad[0].x
					}
				}
				l[i] = x.x
				same(t, fmt.Sprintf("%s, argument %d: %v", what, i, x.x), call(l), append(slices.Clone(nothing), x.e))
			}
		}
	}
}

// badNumbers returns numbers that are not from low to high.
func badNumbers(low, high int) []bad[int] {
	var out []bad[int]
	for _, n := range []int{low - 1, high + 1, math.MinInt, math.MaxInt, 1 << 32, -1 << 32} {
		out = append(out, bad[int]{n, api.ErrRange})
	}
	return out
}

// within returns bad elements as the first and as the last one of a list of good ones.
func within[T any](good T, l []bad[T]) []bad[[]T] {
	var out []bad[[]T]
	for _, x := range l {
		out = append(out, bad[[]T]{[]T{x.x}, x.e}, bad[[]T]{[]T{good, x.x}, x.e}, bad[[]T]{[]T{x.x, good}, x.e})
	}
	return out
}

var (
	badNames      = []string{"", "9", "_a", "a b", "a-b", "\u00e9", "a\n", strings.Repeat("a", 25)}
	badCategories = badNumbers(0, 3)
	badTicks      = badNumbers(0, 100000000)
	badIDs        = badNumbers(1, 999999999)
	badAheads     = badNumbers(0, 1000)
	badLengths    = badNumbers(0, 1000)
	badPrices     = badNumbers(0, 1000)
)

// badRunwayNames returns strings that are no names.
func badRunwayNames() []bad[string] {
	var out []bad[string]
	for _, s := range badNames {
		out = append(out, bad[string]{s, api.ErrName})
	}
	return out
}

func badWeathers() []bad[release.Weather] {
	var out []bad[release.Weather]
	for _, n := range badNumbers(0, 10000) {
		out = append(out, bad[release.Weather]{weather(n.x, 1, 2, 3), n.e}, bad[release.Weather]{weather(1, n.x, 2, 3), n.e}, bad[release.Weather]{weather(1, 2, n.x, 3), n.e}, bad[release.Weather]{weather(1, 2, 3, n.x), n.e}, bad[release.Weather]{weather(n.x, n.x, n.x, n.x), n.e})
	}
	return out
}

func badEquipments() []bad[release.Equipment] {
	var out []bad[release.Equipment]
	for _, n := range badCategories {
		out = append(out, bad[release.Equipment]{equipment(n.x, 1, 1), n.e}, bad[release.Equipment]{supplied(1, n.x, 1), n.e})
	}
	for _, n := range badNumbers(0, 60) {
		out = append(out, bad[release.Equipment]{equipment(1, 1, n.x), n.e}, bad[release.Equipment]{supplied(3, 3, n.x), n.e})
	}
	return out
}

// badLimits returns limits of which one is none.
func badLimits() []bad[[2]int] {
	var out []bad[[2]int]
	for _, n := range badCategories {
		out = append(out, bad[[2]int]{[2]int{n.x, 1}, n.e}, bad[[2]int]{[2]int{1, n.x}, n.e}, bad[[2]int]{[2]int{n.x, n.x}, n.e})
	}
	return out
}

func badRunways() []bad[release.Runway] {
	var out []bad[release.Runway]
	add := func(e api.Errno, change func(r *release.Runway)) {
		out = append(out, bad[release.Runway]{with(runwayR, change), e})
	}
	for _, s := range badNames {
		add(api.ErrName, func(r *release.Runway) { r.Name = s })
		add(api.ErrName, func(r *release.Runway) { r.Name, r.Minima[0].Ceiling = s, -1 }) // before the minima
	}
	for i := range 3 {
		for _, x := range badWeathers() {
			add(x.e, func(r *release.Runway) { r.Minima[i] = x.x })
			add(x.e, func(r *release.Runway) { r.Minima[i], r.Needs[i] = x.x, equipment(3, 0, 60) }) // before the order
		}
		for _, x := range badEquipments() {
			add(x.e, func(r *release.Runway) { r.Needs[i] = x.x })
			add(x.e, func(r *release.Runway) { r.Minima[i], r.Needs[i] = weather(10000, 10000, 10000, 10000), x.x })
		}
	}
	// from each category to the next one
	for i := range 2 {
		for k := range 3 {
			add(api.ErrOrder, func(r *release.Runway) { r.Minima[i+1].Views[k] = r.Minima[i].Views[k] + 1 })
		}
		add(api.ErrOrder, func(r *release.Runway) { r.Minima[i+1].Ceiling = r.Minima[i].Ceiling + 1 })
		add(api.ErrOrder, func(r *release.Runway) { r.Needs[i+1].Switch = r.Needs[i].Switch + 1 })
		add(api.ErrOrder, func(r *release.Runway) { r.Needs[i+1].Signal = r.Needs[i].Signal - 1 })
		add(api.ErrOrder, func(r *release.Runway) { r.Needs[i+1].Lights = r.Needs[i].Lights - 1 })
		add(api.ErrOrder, func(r *release.Runway) { r.Needs[i].Standby, r.Needs[i+1].Standby = true, false })
	}
	add(api.ErrOrder, func(r *release.Runway) { r.Minima[2] = weather(10000, 10000, 10000, 10000) })
	add(api.ErrOrder, func(r *release.Runway) { r.Needs[2] = release.Equipment{} })
	// the first category decides, and of it first the minima
	add(api.ErrOrder, func(r *release.Runway) { r.Needs[1].Signal, r.Minima[2].Ceiling = 0, -1 })
	add(api.ErrRange, func(r *release.Runway) { r.Needs[2].Signal, r.Minima[1].Ceiling = 0, -1 })
	add(api.ErrRange, func(r *release.Runway) { r.Needs[0].Signal, r.Minima[1].Ceiling = -1, 10000 })
	return out
}

func badRules() []bad[release.Rule] {
	out := []bad[release.Rule]{
		{rule(5, 6, 9, 1), api.ErrOrder}, {rule(6, 5, 5, 1), api.ErrOrder}, {rule(5, 6, 5, 1), api.ErrOrder}, {rule(0, 10000, 10000, 1), api.ErrOrder}, {rule(10000, 0, 9999, 100), api.ErrOrder}, {rule(3, 2, 1, 1), api.ErrOrder},
		{rule(5, 6, 10001, 1), api.ErrRange}, {rule(5, 6, 4, 0), api.ErrRange}, {rule(5, 6, 4, 101), api.ErrRange}, {release.Rule{}, api.ErrRange}, // the ranges before the order
	}
	for _, n := range badNumbers(0, 10000) {
		out = append(out, bad[release.Rule]{rule(n.x, 0, 10000, 1), n.e}, bad[release.Rule]{rule(5, n.x, 10, 1), n.e}, bad[release.Rule]{rule(5, 5, n.x, 1), n.e}, bad[release.Rule]{rule(n.x, n.x, n.x, 1), n.e})
	}
	for _, n := range badNumbers(1, 100) {
		out = append(out, bad[release.Rule]{rule(5, 5, 5, n.x), n.e})
	}
	return out
}

func badMomentLists() []bad[[]release.Moment] {
	out := []bad[[]release.Moment]{{make([]release.Moment, 257), api.ErrMany}, {make([]release.Moment, 10000), api.ErrMany}, {moments(slices.Repeat(indices(-1), 257)...), api.ErrMany}}
	for _, n := range badNumbers(0, 10000) {
		out = append(out, bad[[]release.Moment]{moments(n.x), n.e}, bad[[]release.Moment]{moments(5, n.x), n.e}, bad[[]release.Moment]{append(make([]release.Moment, 255), moments(n.x)...), n.e})
	}
	return out
}

// badNotices returns single notices with the number 9 with their errors.
func badNotices() []bad[release.Notice] {
	good := notice(9, "r9", 100, 160, 400, 1)
	var out []bad[release.Notice]
	add := func(e api.Errno, change func(n *release.Notice)) {
		out = append(out, bad[release.Notice]{with(good, change), e})
	}
	for _, x := range badIDs {
		add(x.e, func(n *release.Notice) { n.Number = x.x })
		add(x.e, func(n *release.Notice) { *n = release.Notice{Number: x.x} }) // before the name
	}
	for _, s := range badNames {
		add(api.ErrName, func(n *release.Notice) { n.Runway = s })
		add(api.ErrName, func(n *release.Notice) { n.Runway, n.Issued = s, -1 })
	}
	for _, x := range badTicks {
		add(x.e, func(n *release.Notice) { n.Issued = x.x })
		add(x.e, func(n *release.Notice) { n.From = x.x })
		add(x.e, func(n *release.Notice) { n.Until = x.x })
	}
	for _, x := range badCategories {
		add(x.e, func(n *release.Notice) { n.Category = x.x })
		add(x.e, func(n *release.Notice) { n.Category, n.Issued = x.x, 161 }) // before the order
		add(x.e, func(n *release.Notice) { n.Category, n.Until = x.x, 160 })
	}
	for _, l := range [][3]int{{161, 160, 400}, {160, 160, 160}, {100, 400, 160}, {400, 160, 100}, {100000000, 0, 1}, {0, 100000000, 100000000}, {0, 0, 0}, {1, 0, 0}} {
		add(api.ErrOrder, func(n *release.Notice) { n.Issued, n.From, n.Until = l[0], l[1], l[2] })
	}
	return out
}

// manyNotices returns n notices.
func manyNotices(n int) []release.Notice {
	var l []release.Notice
	for i := range n {
		l = append(l, notice(1+10*i, fmt.Sprintf("n%d", i%5), i, 2*i, 5*i+1, i%4))
	}
	return l
}

func badNoticeLists() []bad[[]release.Notice] {
	good := notice(8, "r9", 0, 0, 1, 0)
	out := []bad[[]release.Notice]{
		{manyNotices(33), api.ErrMany}, {make([]release.Notice, 33), api.ErrMany}, {make([]release.Notice, 10000), api.ErrMany},
		{[]release.Notice{good, good}, api.ErrOrder}, {[]release.Notice{good, with(good, func(n *release.Notice) { n.Number = 7 })}, api.ErrOrder}, {[]release.Notice{good, notice(9, "r9", 0, 0, 1, 0), good}, api.ErrOrder}, {append(manyNotices(31), manyNotices(31)[30]), api.ErrOrder},
		{[]release.Notice{good, notice(8, "9", 0, 0, 1, 0)}, api.ErrName}, {[]release.Notice{good, notice(8, "r9", 0, 0, 1, 4)}, api.ErrRange}, // the order is asked last
		{[]release.Notice{good, good, notice(9, "r9", -1, 0, 1, 0)}, api.ErrOrder}, {[]release.Notice{good, notice(9, "", 0, 0, 1, 0), good}, api.ErrName}, {[]release.Notice{good, notice(9, "r9", -1, 0, 1, 0), good}, api.ErrRange}, // the first one decides
	}
	for _, x := range badNotices() {
		out = append(out, bad[[]release.Notice]{[]release.Notice{x.x}, x.e}, bad[[]release.Notice]{[]release.Notice{good, x.x}, x.e}, bad[[]release.Notice]{[]release.Notice{x.x, notice(999999999, "r9", 0, 0, 1, 0)}, x.e})
	}
	return out
}

func badChanges() []bad[release.Change] {
	var out []bad[release.Change]
	for _, s := range badNames {
		out = append(out, bad[release.Change]{change(s, 5, 1), api.ErrName}, bad[release.Change]{change(s, -1, 4), api.ErrName})
	}
	for _, n := range badTicks {
		out = append(out, bad[release.Change]{change("r9", n.x, 1), n.e})
	}
	for _, n := range badCategories {
		out = append(out, bad[release.Change]{change("r9", 5, n.x), n.e})
	}
	return out
}

func badChangeLists() []bad[[]release.Change] {
	out := within(change6, badChanges())
	return append(out,
		bad[[]release.Change]{slices.Repeat([]release.Change{change6}, 33), api.ErrMany},
		bad[[]release.Change]{make([]release.Change, 33), api.ErrMany},
		bad[[]release.Change]{append(slices.Repeat([]release.Change{change6}, 31), release.Change{}), api.ErrName},
		bad[[]release.Change]{[]release.Change{change("r9", -1, 0), {}}, api.ErrRange},
		bad[[]release.Change]{[]release.Change{{}, change("r9", -1, 0)}, api.ErrName})
}

// manyWorks returns n works.
func manyWorks(n int) []release.Work {
	var l []release.Work
	for i := range n {
		l = append(l, work(fmt.Sprintf("n%d", i), fmt.Sprintf("r%d", i%2), 1+i, 100*i))
	}
	return l
}

func badWorks() []bad[[]release.Work] {
	var single []bad[release.Work]
	for _, s := range badNames {
		single = append(single, bad[release.Work]{work(s, "r9", 1, 1), api.ErrName}, bad[release.Work]{work("a", s, 1, 1), api.ErrName}, bad[release.Work]{work("a", s, 0, -1), api.ErrName})
	}
	for _, n := range badNumbers(1, 1000) {
		single = append(single, bad[release.Work]{work("a", "r9", n.x, 1), n.e})
	}
	for _, n := range badNumbers(0, 1000000) {
		single = append(single, bad[release.Work]{work("a", "r9", 1, n.x), n.e})
	}
	lamp := works7[0]
	return append(within(lamp, single),
		bad[[]release.Work]{manyWorks(9), api.ErrMany},
		bad[[]release.Work]{make([]release.Work, 9), api.ErrMany},
		bad[[]release.Work]{make([]release.Work, 10000), api.ErrMany},
		bad[[]release.Work]{append(manyWorks(7), release.Work{}), api.ErrName},
		bad[[]release.Work]{[]release.Work{lamp, lamp}, api.ErrTwice},
		bad[[]release.Work]{[]release.Work{lamp, works7[1], work("lamp", "9", 0, -1)}, api.ErrTwice}, // before the runway
		bad[[]release.Work]{[]release.Work{lamp, work("a", "r9", 0, 1), lamp}, api.ErrRange},         // the first one decides
		bad[[]release.Work]{[]release.Work{lamp, work("a", "9", 1, 1), lamp}, api.ErrName},
		bad[[]release.Work]{[]release.Work{lamp, lamp, {}}, api.ErrTwice})
}
