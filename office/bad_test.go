package office_test

import (
	"fmt"
	"math"
	"slices"
	"strings"
	"testing"

	"glideslope/api"
)

// The functions of this file return arguments with their errors.

// bad is an argument with its error.
type bad[T any] struct {
	x T
	e api.Errno
}

// argument is an argument of a function: a good one, and others with their errors.
type argument struct {
	good any
	bad  []bad[any]
}

func argumentOf[T any](good T, l []bad[T]) argument {
	a := argument{good: good}
	for _, x := range l {
		a.bad = append(a.bad, bad[any]{x.x, x.e})
	}
	return a
}

// checkErrors calls a function with each bad argument, all before it good, and those after it all good or all bad. It returns results of its type beside the error.
func checkErrors(t *testing.T, what string, call func(a []any) []any, nothing []any, arguments ...argument) {
	t.Helper()
	for i, a := range arguments {
		for k, x := range a.bad {
			for m := range 2 {
				l := make([]any, len(arguments))
				for j, b := range arguments {
					l[j] = b.good
					if j > i && m == 1 && len(b.bad) > 0 {
						l[j] = b.bad[0].x
					}
				}
				l[i] = x.x
				same(t, fmt.Sprintf("%s, argument %d, bad one %d", what, i, k), call(l), append(slices.Clone(nothing), x.e))
			}
		}
	}
}

// badNumbers returns numbers that are not from low to high.
func badNumbers(low, high int) []bad[int] {
	var out []bad[int]
	for _, n := range []int{low - 1, high + 1, math.MinInt, math.MaxInt, 1 << 32, -1 << 32} {
		out = append(out, bad[int]{n, api.ErrRange})
	}
	return out
}

var (
	badNames        = words("", "9", "_a", "a b", "a-b", "\u00e9", "a\n", "a#", strings.Repeat("a", 25))
	badTicks        = badNumbers(0, 999999999)
	badVisibilities = badNumbers(0, 10000)
	badWithins      = badNumbers(0, 1000000)
	badKinds        = words("", "Runway", "runway ", " runway", "undo\n", "lamp", "usable", "runway r", "lost")
	badSpans        = []bad[api.Span]{{span(-1, 5), api.ErrSpan}, {span(5, 4), api.ErrSpan}, {span(0, 1000000000), api.ErrSpan}, {span(1000000000, 1000000000), api.ErrSpan}, {span(-1, -1), api.ErrSpan}, {span(math.MinInt, math.MaxInt), api.ErrSpan}, {span(math.MaxInt, math.MinInt), api.ErrSpan}, {span(math.MaxInt, math.MaxInt), api.ErrSpan}, {span(999999999, 999999998), api.ErrSpan}}
	longSpans       = []bad[api.Span]{{span(0, 257), api.ErrLarge}, {span(10, 267), api.ErrLarge}, {span(0, 999999999), api.ErrLarge}, {span(999999742, 999999999), api.ErrLarge}}
)

// badThings returns names of which there is no runway, facility or part in J.
func badThings(others ...string) []bad[string] {
	var out []bad[string]
	for _, s := range append(others, "g", "F", "R", "bob", "ann", "", "f ", " f", "fuse") {
		out = append(out, bad[string]{s, api.ErrUnknown})
	}
	return out
}

// shape is how many names and values the events of a kind have.
type shape struct {
	kind          string
	names, values int
}

var shapes = []shape{{"runway", 1, 1}, {"facility", 2, 2}, {"grant", 1, 2}, {"adjust", 2, 1}, {"inspect", 2, 2}, {"on", 1, 1}, {"off", 1, 1}, {"alarm", 1, 1}, {"reset", 2, 1}, {"stock", 1, 2}, {"take", 2, 2}, {"undo", 0, 0}}

// shaped returns the event of a kind with so many names and values.
func shaped(number int, kind string, names, values int) api.Event {
	return api.Event{Number: number, Kind: kind, Names: words("f", "bob", "r", "x")[:names], Values: []int{40, 1, 2, 3}[:values]}
}

// badEvents returns events with a number for which CheckEvent returns an error.
func badEvents(number int) []bad[api.Event] {
	var out []bad[api.Event]
	add := func(e api.Errno, change func(x *api.Event)) {
		out = append(out, bad[api.Event]{with(event(number, "inspect f bob 40 2"), change), e})
	}
	for _, n := range badNumbers(1, 1000) {
		add(n.e, func(x *api.Event) { x.Number = n.x })
		add(n.e, func(x *api.Event) { *x = api.Event{Number: n.x} }) // before the kind
	}
	for _, kind := range badKinds {
		add(api.ErrKind, func(x *api.Event) { x.Kind = kind })
		add(api.ErrKind, func(x *api.Event) { x.Kind, x.Names, x.Values = kind, nil, nil }) // before the shape
	}
	for _, s := range shapes {
		for names := range 4 {
			for values := range 4 {
				if names != s.names || values != s.values {
					add(api.ErrShape, func(x *api.Event) { *x = shaped(number, s.kind, names, values) })
				}
			}
		}
		add(api.ErrShape, func(x *api.Event) {
			*x = api.Event{Number: number, Kind: s.kind, Names: make([]string, 300), Values: make([]int, 300)}
		})
		for i := range s.names {
			add(api.ErrName, func(x *api.Event) {
				*x = shaped(number, s.kind, s.names, s.values)
				x.Names = slices.Clone(x.Names)
				x.Names[i] = "9"
			})
		}
		for i := range s.values {
			add(api.ErrRange, func(x *api.Event) { *x = shaped(number, s.kind, s.names, s.values); x.Values[i] = -1 })
		}
		add(api.ErrForm, func(x *api.Event) { *x = shaped(number, s.kind, s.names, s.values); x.Text = "x" })
	}
	add(api.ErrShape, func(x *api.Event) { x.Names, x.Values = words("", ""), []int{-1} }) // before the names and values
	for i := range 2 {
		for _, s := range badNames {
			add(api.ErrName, func(x *api.Event) { x.Names[i] = s })
			add(api.ErrName, func(x *api.Event) { x.Names[i], x.Values[0], x.Text = s, -1, "x" }) // before the values
		}
		for _, n := range badTicks {
			add(n.e, func(x *api.Event) { x.Values[i] = n.x })
			add(n.e, func(x *api.Event) { x.Values[i], x.Text = n.x, "x" }) // before the text
		}
	}
	for _, s := range words("x", " ", "\x00", strings.Repeat("x", 5000)) {
		add(api.ErrForm, func(x *api.Event) { x.Text = s })
	}
	return out
}

// refused is events that are accepted, the line of an event after them, and the error with which it is not accepted, or OK.
type refused struct {
	before []api.Event
	line   string
	e      api.Errno
}

// many returns events with n things more: lines with their numbers.
func many(l []api.Event, n int, format string) []api.Event {
	for i := range n {
		l = further(l, fmt.Sprintf(format, i))
	}
	return l
}

// refusals returns events that are not accepted, and some that are, in the order of the chapter's table of errors.
func refusals() []refused {
	j := eventsJ
	off, alarm, fuse := further(j, "off f 40"), further(j, "alarm f 40"), further(j, "stock fuse 40 9999")
	var out []refused
	add := func(before []api.Event, e api.Errno, lines ...string) {
		for _, line := range lines {
			out = append(out, refused{before, line, e})
		}
	}
	add(nil, api.ErrEmpty, "undo")
	add(events("runway r 0", "undo"), api.ErrEmpty, "undo")
	add(events("runway r 0", "runway s 0", "undo", "undo"), api.ErrEmpty, "undo")
	add(further(j, "undo"), api.ErrRule, "undo")
	add(alarm, api.ErrRule, "undo")
	add(further(alarm, "reset f bob 42"), api.ErrRule, "undo")
	add(further(alarm, "stock fuse 41 1", "undo"), api.ErrRule, "undo")
	for _, l := range [][]api.Event{j, off, fuse, eventsJ[:5], eventsJ[:4], eventsJ[:3], eventsJ[:2], eventsJ[:1], further(fuse, "take fuse f 41 1"), further(alarm, "stock fuse 41 1")} {
		add(l, api.OK, "undo")
	}

	add(j, api.ErrState, "runway s 29", "runway r 29", "facility g s 29 0", "grant ann 29 28", "adjust x ann 0", "inspect f cat 29 9", "on x 29", "on f 29", "off f 29", "alarm f 29", "reset f bob 29", "stock fuse 29 0", "take fuse f 29 0")
	add(j, api.OK, "runway s 30", "runway s 999999999", "facility g r 30 5", "grant ann 30 30", "inspect f bob 30 1", "off f 30", "alarm f 30", "stock fuse 30 1")
	add(further(j, "undo"), api.ErrState, "runway s 19")
	add(further(j, "undo"), api.OK, "runway s 20", "on f 20")

	add(nil, api.ErrUnknown, "facility f r 0 5", "adjust f ann 0", "inspect f ann 0 1", "on f 0", "off f 0", "alarm f 0", "reset f ann 0", "take fuse f 0 1")
	add(nil, api.OK, "runway r 0", "grant ann 0 0", "stock fuse 0 1")
	add(j, api.ErrUnknown, "facility g s 40 0", "facility f s 40 5", "facility g f 40 5", "adjust x ann 60", "adjust f cat 40", "adjust f r 40", "adjust ann f 40", "inspect x bob 40 4", "inspect f cat 40 4", "inspect F bob 40 2", "on x 40", "on r 40", "on bob 40", "off x 40", "alarm x 40", "reset x bob 40", "reset f cat 40", "take fuse f 40 0")
	add(fuse, api.ErrUnknown, "take fuse x 40 0", "take fuse r 40 1", "take f fuse 40 1", "take Fuse f 40 1", "on fuse 40")
	add(further(j, "undo", "runway s 25", "undo"), api.ErrUnknown, "facility g s 30 5")

	add(j, api.ErrTwice, "runway r 40", "facility f r 40 0", "facility f r 40 1000001", "facility f r 40 5")
	add(j, api.OK, "runway f 40", "facility r r 40 5", "grant f 40 40", "grant r 40 40", "stock r 40 1", "stock ann 40 1", "runway ann 40")

	runways, facilities := many(j, 7, "runway r%d 30"), many(j, 15, "facility f%d r 30 7")
	add(runways, api.ErrMany, "runway s 40")
	add(runways, api.ErrTwice, "runway r6 40")
	add(runways[:len(runways)-1], api.OK, "runway s 40")
	add(further(runways, "undo"), api.OK, "runway s 40")
	add(j, api.ErrRange, "facility g r 40 0", "facility g r 40 1000001", "facility g r 40 999999999")
	add(j, api.OK, "facility g r 40 1", "facility g r 40 1000000")
	add(facilities, api.ErrMany, "facility g r 40 1")
	add(facilities, api.ErrRange, "facility g r 40 0")
	add(facilities, api.ErrTwice, "facility f14 r 40 0")
	add(facilities[:len(facilities)-1], api.OK, "facility g r 40 1")
	add(further(facilities, "undo"), api.OK, "facility g r 40 1")

	technicians := many(j, 14, "grant t%d 30 90")
	add(j, api.ErrOld, "grant cat 40 39", "grant ann 40 39", "grant ann 40 0")
	add(j, api.OK, "grant cat 40 40", "grant ann 40 40", "grant bob 300 999999999", "grant ann 60 70")
	add(technicians, api.ErrOld, "grant cat 40 39")
	add(technicians, api.ErrMany, "grant cat 40 40")
	add(technicians, api.OK, "grant ann 40 40", "grant t13 40 50")
	add(technicians[:len(technicians)-1], api.OK, "grant cat 40 40")

	add(j, api.ErrRight, "adjust f ann 51", "inspect f ann 51 4", "inspect f bob 201 2", "reset f ann 51", "reset f bob 999999999")
	add(off, api.ErrRight, "adjust f ann 51", "adjust f bob 201")
	add(further(j, "grant bob 40 45"), api.ErrRight, "inspect f bob 46 1")
	add(further(j, "grant ann 55 60"), api.ErrOpen, "adjust f ann 60")
	add(j, api.ErrOpen, "adjust f ann 50", "adjust f bob 40")
	add(off, api.OK, "adjust f ann 40", "adjust f ann 50", "adjust f bob 200")
	add(alarm, api.OK, "adjust f bob 41")
	add(j, api.ErrRange, "inspect f bob 40 4", "inspect f ann 40 4", "inspect f bob 40 999999999")
	add(j, api.ErrHeld, "inspect f ann 40 3", "inspect f ann 50 0")
	add(j, api.OK, "inspect f bob 40 0", "inspect f bob 200 3")
	add(further(off, "adjust f bob 41"), api.ErrHeld, "inspect f bob 42 1")
	add(further(off, "adjust f bob 41"), api.OK, "inspect f ann 42 1")
	add(further(off, "adjust f bob 41", "inspect f ann 42 1"), api.ErrHeld, "inspect f bob 43 1")
	add(further(j, "facility g r 35 5"), api.OK, "inspect g ann 40 1", "inspect g bob 40 1")

	add(j, api.ErrNone, "reset f ann 50", "reset f bob 40")
	add(alarm, api.ErrRight, "reset f ann 51")
	add(alarm, api.OK, "reset f ann 50", "reset f bob 40")
	add(further(alarm, "reset f bob 42"), api.ErrNone, "reset f bob 42", "off f 42")
	add(further(alarm, "reset f bob 42"), api.OK, "on f 42", "alarm f 42")

	add(j, api.ErrHeld, "on f 40")
	add(alarm, api.ErrLocked, "on f 41")
	add(off, api.OK, "on f 40", "alarm f 40")
	add(off, api.ErrNone, "off f 41")
	add(alarm, api.ErrNone, "off f 41")
	add(alarm, api.ErrHeld, "alarm f 41")
	add(j, api.OK, "off f 40", "alarm f 40")
	add(eventsJ[:2], api.ErrNone, "off f 40")
	add(eventsJ[:2], api.OK, "on f 40", "alarm f 40")

	parts := many(j, 16, "stock p%d 30 7")
	add(j, api.ErrRange, "stock fuse 40 0")
	add(j, api.ErrLarge, "stock fuse 40 10001", "stock fuse 40 999999999")
	add(j, api.OK, "stock fuse 40 1", "stock fuse 40 10000")
	add(fuse, api.ErrRange, "stock fuse 41 0", "take fuse f 41 0")
	add(fuse, api.ErrLarge, "stock fuse 41 2")
	add(fuse, api.OK, "stock fuse 41 1", "stock lamp 41 10000", "take fuse f 41 1", "take fuse f 41 9999")
	add(parts, api.ErrRange, "stock fuse 41 0")
	add(parts, api.ErrMany, "stock fuse 41 1", "stock fuse 41 10001")
	add(parts, api.OK, "stock p0 41 1", "stock p15 41 9993", "take p15 f 41 7")
	add(parts[:len(parts)-1], api.OK, "stock fuse 41 1")
	add(fuse, api.ErrShort, "take fuse f 41 10000", "take fuse f 41 999999999")
	add(further(fuse, "take fuse f 41 9999"), api.ErrShort, "take fuse f 41 1")
	add(further(fuse, "take fuse f 41 9999"), api.OK, "stock fuse 41 10000")
	return out
}

// manyEvents returns n accepted events.
func manyEvents(n int) []api.Event {
	lines := slices.Clone(linesJ)
	for len(lines) < n {
		lines = append(lines, "off f 31", "on f 31")
	}
	return events(lines...)[:n]
}

// badJournal is events with the number of the first one with an error, and this error.
type badJournal struct {
	l      []api.Event
	number int
	e      api.Errno
}

// badJournals returns events with an error.
func badJournals() []badJournal {
	out := []badJournal{
		{make([]api.Event, 1001), 0, api.ErrMany}, {append(manyEvents(1000), event(1001, "off f 31")), 0, api.ErrMany}, {append(manyEvents(1000), eventsJ...), 0, api.ErrMany}, {make([]api.Event, 1000), 1, api.ErrRange}, {make([]api.Event, 1), 1, api.ErrRange},
		{eventsJ[1:], 1, api.ErrOrder}, {append(slices.Clone(eventsJ), eventsJ...), 8, api.ErrOrder}, {append(slices.Clone(eventsJ), event(9, "off f 40")), 8, api.ErrOrder}, {append(slices.Clone(eventsJ), event(7, "undo")), 8, api.ErrOrder}, {events("undo", "undo"), 1, api.ErrEmpty}, {[]api.Event{event(2, "undo")}, 1, api.ErrOrder}, {append(slices.Clone(eventsJ), event(1000, "on g 2")), 8, api.ErrOrder},
		{append(manyEvents(999), api.Event{Number: 1000}), 1000, api.ErrKind},
	}
	for i := range eventsJ {
		l := slices.Clone(eventsJ)
		l[i].Number++
		out = append(out, badJournal{l, i + 1, api.ErrOrder})
	}
	for i, x := range badEvents(8) {
		if l := append(slices.Clone(eventsJ), x.x); i%5 == 0 {
			out = append(out, badJournal{append(l, l...), 8, x.e})
		} else {
			out = append(out, badJournal{l, 8, x.e})
		}
	}
	for _, x := range badEvents(3) {
		out = append(out, badJournal{slices.Concat(eventsJ[:2], []api.Event{x.x}, eventsJ[3:]), 3, x.e})
	}
	for _, x := range refusals() {
		if l := further(x.before, x.line); x.e != api.OK {
			out = append(out, badJournal{l, len(l), x.e}, badJournal{append(l, api.Event{}), len(l), x.e})
		}
	}
	return out
}

// journals returns some of the events with an error as arguments.
func journals() argument {
	var out []bad[[]api.Event]
	for i, x := range badJournals() {
		if i < 30 || i%20 == 0 {
			out = append(out, bad[[]api.Event]{x.l, x.e})
		}
	}
	return argumentOf(eventsJ, out)
}
