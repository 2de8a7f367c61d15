package monitor_test

import (
	"fmt"
	"math"
	"slices"
	"strings"
	"testing"

	"glideslope/api"
	"glideslope/monitor"
)

// The functions of this file return arguments with their errors.

// bad is an argument with its error.
type bad[T any] struct {
	x T
	e api.Errno
}

// argument is an argument of a function: a good one, and others with their errors.
type argument struct {
	good any
	bad  []bad[any]
}

func argumentOf[T any](good T, l []bad[T]) argument {
	a := argument{good: good}
	for _, x := range l {
		a.bad = append(a.bad, bad[any]{x.x, x.e})
	}
	return a
}

// checkErrors calls a function with each bad argument, all before it good, and those after it all good or all bad. It returns results of its type beside the error.
func checkErrors(t *testing.T, what string, call func(a []any) []any, nothing []any, arguments ...argument) {
	t.Helper()
	for i, a := range arguments {
		for _, x := range a.bad {
			for k := range 2 {
				l := make([]any, len(arguments))
				for j, b := range arguments {
					l[j] = b.good
					if j > i && k == 1 && len(b.bad) > 0 {
						l[j] = b.bad[0].x
					}
				}
				l[i] = x.x
				same(t, fmt.Sprintf("%s, argument %d: %v", what, i, x.x), call(l), append(slices.Clone(nothing), x.e))
			}
		}
	}
}

// within returns bad elements as the first and as the last one of a list of good ones.
func within[T any](good T, l []bad[T]) []bad[[]T] {
	var out []bad[[]T]
	for _, x := range l {
		out = append(out, bad[[]T]{[]T{x.x}, x.e}, bad[[]T]{[]T{good, x.x}, x.e}, bad[[]T]{[]T{x.x, good}, x.e})
	}
	return out
}

// badNumbers returns numbers that are not from low to high.
func badNumbers(low, high int) []bad[int] {
	var out []bad[int]
	for _, n := range []int{low - 1, high + 1, math.MinInt, math.MaxInt, 1 << 32, -1 << 32} {
		out = append(out, bad[int]{n, api.ErrRange})
	}
	return out
}

var badNames = []string{"", "9", "_a", "a b", "a-b", "\u00e9", "a\n", strings.Repeat("a", 25)}

func badLimits() []bad[api.Interval] {
	out := []bad[api.Interval]{
		{interval(1, 0), api.ErrOrder}, {interval(10000, 9999), api.ErrOrder}, {interval(-9999, -10000), api.ErrOrder}, {interval(10000, -10000), api.ErrOrder},
		{interval(10001, 0), api.ErrRange}, {interval(0, -10001), api.ErrRange}, {interval(math.MaxInt, math.MinInt), api.ErrRange}, {interval(math.MinInt, math.MaxInt), api.ErrRange}, // before ErrOrder
	}
	for _, n := range badNumbers(-10000, 10000) {
		out = append(out, bad[api.Interval]{interval(n.x, 0), n.e}, bad[api.Interval]{interval(0, n.x), n.e}, bad[api.Interval]{interval(n.x, n.x), n.e})
	}
	return out
}

// badSensors returns single sensors with their errors.
func badSensors() []bad[monitor.Sensor] {
	var out []bad[monitor.Sensor]
	add := func(e api.Errno, change func(x *monitor.Sensor)) {
		out = append(out, bad[monitor.Sensor]{with(monitor.Sensor{Name: "bad", Kind: "near", Delay: 1}, change), e})
	}
	for _, s := range badNames {
		add(api.ErrName, func(x *monitor.Sensor) { x.Name = s })
		add(api.ErrName, func(x *monitor.Sensor) { *x = monitor.Sensor{Name: s} })
	}
	for _, s := range []string{"", "Near", "near ", " near", "nearer", "nea", "integral,near", "field", "\xff", "0"} {
		add(api.ErrKind, func(x *monitor.Sensor) { x.Kind = s })
		add(api.ErrKind, func(x *monitor.Sensor) { x.Kind, x.Limits = s, interval(1, 0) }) // before the limits
	}
	for _, l := range badLimits() {
		add(l.e, func(x *monitor.Sensor) { x.Limits = l.x })
		add(l.e, func(x *monitor.Sensor) { x.Limits, x.Delay = l.x, 0 }) // before the delay
	}
	for _, n := range badNumbers(1, 60) {
		add(n.e, func(x *monitor.Sensor) { x.Delay = n.x })
	}
	return out
}

// badPlants returns plants with their errors.
func badPlants() []bad[monitor.Plant] {
	var out []bad[monitor.Plant]
	add := func(e api.Errno, change func(p *monitor.Plant)) {
		out = append(out, bad[monitor.Plant]{with(plantP, change), e})
	}
	add(api.ErrEmpty, func(p *monitor.Plant) { p.Sensors = nil })
	add(api.ErrEmpty, func(p *monitor.Plant) { *p = monitor.Plant{} })
	add(api.ErrEmpty, func(p *monitor.Plant) { *p = monitor.Plant{Sensors: []monitor.Sensor{}, Need: 1, Silence: -1} })
	for _, n := range []int{9, 10, 1000} {
		add(api.ErrMany, func(p *monitor.Plant) { p.Sensors = manySensors(n) })
		add(api.ErrMany, func(p *monitor.Plant) { p.Sensors = make([]monitor.Sensor, n) }) // before any of them
	}
	for _, x := range within(sensorA, badSensors()) {
		add(x.e, func(p *monitor.Plant) { p.Sensors, p.Need = x.x, 1 })
		add(x.e, func(p *monitor.Plant) { p.Sensors, p.Need, p.Silence = x.x, 0, -1 }) // before Need and Silence
	}
	wrong := monitor.Sensor{Name: "w", Kind: "near"}
	for _, x := range []bad[[]monitor.Sensor]{
		{[]monitor.Sensor{sensorA, sensorA}, api.ErrTwice}, {[]monitor.Sensor{sensorA, sensorB, {Name: "a"}}, api.ErrTwice}, // before the kind
		{[]monitor.Sensor{sensorA, wrong, sensorA}, api.ErrRange}, {[]monitor.Sensor{sensorA, {Name: "w"}, sensorA}, api.ErrKind}, {[]monitor.Sensor{sensorA, {Name: "w", Kind: "far", Limits: interval(1, 0)}, sensorA}, api.ErrOrder}, {[]monitor.Sensor{sensorA, {}, sensorA}, api.ErrName}, {[]monitor.Sensor{sensorA, sensorA, {}}, api.ErrTwice}, // the first one decides
	} {
		add(x.e, func(p *monitor.Plant) { p.Sensors = x.x })
	}
	for _, n := range badNumbers(1, 3) {
		add(n.e, func(p *monitor.Plant) { p.Need = n.x })
	}
	add(api.ErrRange, func(p *monitor.Plant) { p.Sensors = p.Sensors[:1] })
	for _, n := range badNumbers(0, 60) {
		add(n.e, func(p *monitor.Plant) { p.Silence = n.x })
	}
	return out
}

// badSeconds returns single seconds of P with their errors.
func badSeconds() []bad[monitor.Second] {
	missing := func(needle int) monitor.Reading { return monitor.Reading{Needle: needle, Missing: true} }
	of := func(l ...monitor.Reading) monitor.Second { return monitor.Second{Readings: l} }
	fine := monitor.Reading{Needle: 3}
	out := []bad[monitor.Second]{
		{read(), api.ErrShape}, {read(1), api.ErrShape}, {read(1, 2), api.ErrShape}, {read(1, 2, 3, 4), api.ErrShape}, {monitor.Second{Readings: make([]monitor.Reading, 1000)}, api.ErrShape},
		{read(10001, 2), api.ErrShape}, {read(0, 0, 0, 10001), api.ErrShape}, {of(missing(1), missing(1)), api.ErrShape}, {told(4, 1, 2), api.ErrShape}, // before the readings and the command
		{of(missing(1), fine, fine), api.ErrForm}, {of(fine, fine, missing(-1)), api.ErrForm}, {of(missing(0), missing(10000), missing(0)), api.ErrForm}, {of(missing(-10000), fine, fine), api.ErrForm},
		{of(missing(10001), fine, fine), api.ErrRange}, {of(fine, missing(math.MinInt), fine), api.ErrRange}, // the range before the form
		{of(missing(1), monitor.Reading{Needle: 10001}, fine), api.ErrForm}, {of(fine, missing(1), missing(10001)), api.ErrForm}, {of(monitor.Reading{Needle: -10001}, missing(1), fine), api.ErrRange}, {of(missing(10001), missing(1), fine), api.ErrRange}, // reading by reading
		{with(of(fine, fine, missing(1)), func(x *monitor.Second) { x.Command = 4 }), api.ErrForm},
	}
	for _, n := range badNumbers(-10000, 10000) {
		for i := range 3 {
			x := read(0, 0, 0)
			x.Readings[i].Needle = n.x
			out = append(out, bad[monitor.Second]{x, n.e})
			x.Command = -1 // before the command
			out = append(out, bad[monitor.Second]{x, n.e})
		}
	}
	for _, n := range badNumbers(0, 3) {
		out = append(out, bad[monitor.Second]{told(n.x, 1, 2, 3), api.ErrKind})
	}
	return out
}

func badSecondLists() []bad[[]monitor.Second] {
	out := within(read(0, 0, 0), badSeconds())
	return append(out,
		bad[[]monitor.Second]{make([]monitor.Second, 257), api.ErrMany},
		bad[[]monitor.Second]{manySeconds(257), api.ErrMany},
		bad[[]monitor.Second]{[]monitor.Second{read(0, 0, 0), told(9, 0, 0, 0), read(0)}, api.ErrKind},
		bad[[]monitor.Second]{[]monitor.Second{read(0, 0, 0), read(0), told(9, 0, 0, 0)}, api.ErrShape})
}

// badRows returns rows of which there have to be n needles, with their errors.
func badRows(n int) []bad[[]int] {
	out := []bad[[]int]{{make([]int, n-1), api.ErrShape}, {make([]int, n+1), api.ErrShape}, {nil, api.ErrShape}, {slices.Repeat([]int{10001}, n-1), api.ErrShape}, {slices.Repeat([]int{10001}, n+1), api.ErrShape}}
	for _, x := range badNumbers(-10000, 10000) {
		for i := range n {
			l := make([]int, n)
			l[i] = x.x
			out = append(out, bad[[]int]{l, x.e})
		}
	}
	return out
}

// badFailures returns single failures of P with their errors.
func badFailures() []bad[monitor.Failure] {
	var out []bad[monitor.Failure]
	add := func(e api.Errno, change func(f *monitor.Failure)) {
		out = append(out, bad[monitor.Failure]{with(monitor.Failure{Name: "bad", Needles: []int{1, 2, 3}}, change), e})
	}
	for _, s := range badNames {
		add(api.ErrName, func(f *monitor.Failure) { f.Name = s })
		add(api.ErrName, func(f *monitor.Failure) { *f = monitor.Failure{Name: s, True: 10001} })
	}
	for _, n := range badNumbers(-10000, 10000) {
		add(n.e, func(f *monitor.Failure) { f.True = n.x })
		add(n.e, func(f *monitor.Failure) { f.True, f.Needles = n.x, nil }) // before the shape
	}
	for _, l := range badRows(3) {
		add(l.e, func(f *monitor.Failure) { f.Needles = l.x })
		add(l.e, func(f *monitor.Failure) { f.Needles, f.Rate = l.x, -1 })
	}
	for _, n := range badNumbers(0, 1000) {
		add(n.e, func(f *monitor.Failure) { f.Rate = n.x })
	}
	return out
}

func badFailureLists() []bad[[]monitor.Failure] {
	out := within(feed, badFailures())
	return append(out,
		bad[[]monitor.Failure]{make([]monitor.Failure, 9), api.ErrMany},
		bad[[]monitor.Failure]{manyFailures(9), api.ErrMany},
		bad[[]monitor.Failure]{[]monitor.Failure{feed, feed}, api.ErrTwice},
		bad[[]monitor.Failure]{[]monitor.Failure{feed, phase, {Name: "feed", True: 10001}}, api.ErrTwice},
		bad[[]monitor.Failure]{[]monitor.Failure{feed, {Name: "w"}, feed}, api.ErrShape},
		bad[[]monitor.Failure]{[]monitor.Failure{feed, {}, feed}, api.ErrName},
		bad[[]monitor.Failure]{[]monitor.Failure{feed, feed, {}}, api.ErrTwice})
}

func badCheckLists() []bad[[]monitor.Check] {
	near := checks[0]
	var single []bad[monitor.Check]
	for _, s := range badNames {
		single = append(single, bad[monitor.Check]{monitor.Check{Name: s, Every: 1}, api.ErrName}, bad[monitor.Check]{monitor.Check{Name: s}, api.ErrName})
	}
	for _, n := range badNumbers(1, 10000) {
		single = append(single, bad[monitor.Check]{monitor.Check{Name: "bad", Every: n.x}, n.e})
	}
	for _, n := range badNumbers(0, 100000) {
		single = append(single, bad[monitor.Check]{monitor.Check{Name: "bad", Every: 1, Last: n.x}, n.e})
	}
	return append(within(near, single),
		bad[[]monitor.Check]{make([]monitor.Check, 17), api.ErrMany},
		bad[[]monitor.Check]{manyChecks(17), api.ErrMany},
		bad[[]monitor.Check]{[]monitor.Check{near, near}, api.ErrTwice},
		bad[[]monitor.Check]{[]monitor.Check{near, checks[1], {Name: "near"}}, api.ErrTwice},
		bad[[]monitor.Check]{[]monitor.Check{near, {Name: "w"}, near}, api.ErrRange},
		bad[[]monitor.Check]{[]monitor.Check{near, near, {}}, api.ErrTwice})
}

// badProofs returns proofs for the count 2 of P and four failures, with their errors.
func badProofs() []bad[[]int] {
	out := []bad[[]int]{{nil, api.ErrShape}, {make([]int, 1), api.ErrShape}, {make([]int, 3), api.ErrShape}, {make([]int, 5), api.ErrShape}, {make([]int, 7), api.ErrShape}, {make([]int, 8), api.ErrShape}, {[]int{4, 4, 4}, api.ErrShape}, {[]int{-1, -1, -1, -1, -1}, api.ErrShape}, {make([]int, 1000), api.ErrShape}}
	for _, n := range []int{-1, 4, math.MinInt, math.MaxInt} {
		for i := range 4 {
			l := make([]int, 4)
			l[i] = n
			out = append(out, bad[[]int]{l, api.ErrUnknown})
			l = []int{2, 2, 2, 2} // before ErrProof
			l[i] = n
			out = append(out, bad[[]int]{l, api.ErrUnknown})
		}
	}
	return out
}

// The following functions return n good elements, of which no two have the same name.

func manySensors(n int) []monitor.Sensor {
	var l []monitor.Sensor
	for i := range n {
		l = append(l, monitor.Sensor{Name: nameOf(i), Kind: kinds[i%3], Limits: interval(-i, i), Delay: 1 + i%60})
	}
	return l
}

// manySeconds returns seconds of P.
func manySeconds(n int) []monitor.Second {
	var l []monitor.Second
	for i := range n {
		l = append(l, told([]int{0, 0, 0, 0, 0, 3}[i%6], i%30, i%20, i%40))
	}
	return l
}

// manyFailures returns failures of P.
func manyFailures(n int) []monitor.Failure {
	var l []monitor.Failure
	for i := range n {
		l = append(l, monitor.Failure{Name: nameOf(i), True: 5 * i, Needles: []int{3 * i, 4 * i, 5 * i}, Rate: i})
	}
	return l
}

func manyChecks(n int) []monitor.Check {
	var l []monitor.Check
	for i := range n {
		l = append(l, monitor.Check{Name: nameOf(i), Every: 1 + i, Last: 3 * i})
	}
	return l
}
