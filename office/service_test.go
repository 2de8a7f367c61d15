package office_test

import (
	"fmt"
	"testing"

	"glideslope/api"
	"glideslope/office"
)

// The tests of this file are those of P10.2, but for provenances.

func TestReasons(t *testing.T) {
	for _, x := range []struct {
		tick int
		want []string
	}{{0, words("inspection", "off")}, {5, words("inspection", "off")}, {10, words("inspection", "adjusted", "off")}, {15, words("inspection", "adjusted", "off")}, {20, words("off")}, {25, words("off")}, {30, nil}, {120, nil}, {121, words("due")}, {999999999, words("due")}} {
		same(t, "Reasons", all(x.tick, reasons(eventsJ, "f", x.tick)), all(x.tick, all(x.want, api.OK)))
	}
	l := further(eventsJ, "inspect f bob 40 0", "alarm f 41", "adjust f ann 42", "reset f bob 43", "facility g r 50 1", "on g 51")
	for _, x := range []struct {
		facility string
		tick     int
		want     []string
	}{
		{"f", 39, nil}, {"f", 40, words("inspection")}, {"f", 41, words("inspection", "alarm", "off")}, {"f", 42, words("inspection", "adjusted", "alarm", "off")}, {"f", 43, words("inspection", "adjusted", "off")}, {"f", 140, words("inspection", "adjusted", "off")}, {"f", 141, words("inspection", "due", "adjusted", "off")},
		{"g", 0, words("none")}, {"g", 49, words("none")}, {"g", 50, words("inspection", "off")}, {"g", 51, words("inspection")}, {"g", 999999999, words("inspection")},
	} {
		same(t, "Reasons", all(x.facility, x.tick, reasons(l, x.facility, x.tick)), all(x.facility, x.tick, all(x.want, api.OK)))
	}
	same(t, "all reasons", reasons(further(l[:9], "adjust f ann 42"), "f", 141), all(words("inspection", "due", "adjusted", "alarm", "off"), api.OK))
	checkErrors(t, "Reasons", func(a []any) []any { return reasons(a[0].([]api.Event), a[1].(string), a[2].(int)) }, all(words()), journals(), argumentOf("f", badThings("r")), argumentOf(15, badTicks))
}

// severalL are events with two facilities of one runway, one of another one, and a runway without.
var severalL = further(eventsJ, "runway s 31", "runway q 31", "facility g r 32 1000", "facility h s 33 10", "inspect g ann 34 3", "inspect h ann 35 1", "on h 36", "on g 37")

func TestServiceable(t *testing.T) {
	l := severalL
	for _, x := range []struct {
		tick int
		want []string
	}{{0, nil}, {29, nil}, {30, words("f")}, {35, words("f")}, {36, words("f", "h")}, {37, words("f", "g", "h")}, {45, words("f", "g", "h")}, {46, words("f", "g")}, {120, words("f", "g")}, {121, words("g")}, {1034, words("g")}, {1035, nil}} {
		same(t, "Serviceable", all(x.tick, serviceable(l, x.tick)), all(x.tick, all(x.want, api.OK)))
	}
	same(t, "Serviceable, nothing", serviceable(nil, 0), all(words(), api.OK))
	checkErrors(t, "Serviceable", func(a []any) []any { return serviceable(a[0].([]api.Event), a[1].(int)) }, all(words()), journals(), argumentOf(15, badTicks))
}

func TestUsable(t *testing.T) {
	for _, x := range []struct{ tick, visibility, want int }{{40, 600, 2}, {40, 550, 2}, {40, 549, 2}, {40, 300, 2}, {40, 299, 0}, {40, 100, 0}, {40, 99, 0}, {40, 0, 0}, {40, 10000, 2}, {29, 600, 0}, {30, 600, 2}, {0, 600, 0}, {120, 600, 2}, {121, 600, 0}} {
		same(t, "Usable", all(x, usable(eventsJ, "r", x.tick, x.visibility)), all(x, all(x.want, api.OK)))
	}
	for category, least := range []int{10001, 550, 300, 100} {
		l := further(eventsJ, fmt.Sprintf("inspect f bob 40 %d", category))
		for _, visibility := range []int{0, 99, 100, 299, 300, 549, 550, 10000} {
			want := category
			if visibility < least {
				want = 0
			}
			same(t, "Usable by a category", all(category, visibility, usable(l, "r", 40, visibility)), all(category, visibility, all(want, api.OK)))
		}
	}
	l := severalL
	for _, x := range []struct {
		runway     string
		tick, want int
	}{{"r", 31, 2}, {"r", 32, 0}, {"r", 36, 0}, {"r", 37, 2}, {"r", 120, 2}, {"r", 121, 0}, {"s", 30, 0}, {"s", 31, 0}, {"s", 35, 0}, {"s", 36, 1}, {"s", 45, 1}, {"s", 46, 0}, {"q", 0, 0}, {"q", 40, 0}, {"q", 999999999, 0}} {
		same(t, "Usable of several", all(x, usable(l, x.runway, x.tick, 1000)), all(x, all(x.want, api.OK)))
	}
	same(t, "Usable of the least category", all(usable(further(l, "inspect f bob 40 3"), "r", 40, 100), usable(further(l, "inspect g bob 40 1"), "r", 40, 550), usable(further(l, "inspect g bob 40 1"), "r", 40, 549)), all(all(3, api.OK), all(1, api.OK), all(0, api.OK)))
	call := func(a []any) []any { return usable(a[0].([]api.Event), a[1].(string), a[2].(int), a[3].(int)) }
	checkErrors(t, "Usable", call, all(0), journals(), argumentOf("r", badThings("f")), argumentOf(15, badTicks), argumentOf(600, badVisibilities))
}

func TestDue(t *testing.T) {
	for _, x := range []struct {
		tick, within int
		want         []string
	}{{101, 20, words("f")}, {101, 19, nil}, {121, 0, words("f")}, {120, 0, nil}, {20, 100, nil}, {20, 101, words("f")}, {19, 0, words("f")}, {0, 0, words("f")}, {999999999, 1000000, words("f")}, {30, 1000000, words("f")}} {
		same(t, "Due", all(x, due(eventsJ, x.tick, x.within)), all(x, all(x.want, api.OK)))
	}
	for _, x := range []struct {
		tick, within int
		want         []string
	}{{31, 0, nil}, {32, 0, words("g")}, {33, 0, words("g", "h")}, {34, 0, words("h")}, {35, 10, nil}, {35, 11, words("h")}, {46, 0, words("h")}, {100, 21, words("f", "h")}, {1035, 0, words("f", "g", "h")}} {
		same(t, "Due of several", all(x, due(severalL, x.tick, x.within)), all(x, all(x.want, api.OK)))
	}
	call := func(a []any) []any { return due(a[0].([]api.Event), a[1].(int), a[2].(int)) }
	checkErrors(t, "Due", call, all(words()), journals(), argumentOf(15, badTicks), argumentOf(20, badWithins))
}

func TestLamps(t *testing.T) {
	alarm := further(eventsJ, "alarm f 31")
	same(t, "Lamps", all(lamped(eventsJ, "f", span(28, 32)), lamped(alarm, "f", span(28, 32))), all(all(lamps(0, 0, 1, 1), api.OK), all(lamps(0, 0, 1, 3), api.OK)))
	same(t, "Lamps when it is due", lamped(eventsJ, "f", span(119, 123)), all(lamps(1, 1, 2, 2), api.OK))
	l := further(alarm, "reset f bob 33", "on f 34", "alarm f 35", "adjust f ann 36", "reset f bob 37", "on f 38", "facility g r 40 5", "alarm g 41", "reset g ann 43", "on g 44", "inspect g bob 45 0", "inspect g bob 46 1", "off g 47")
	same(t, "Lamps of f", lamped(l, "f", span(30, 40)), all(lamps(1, 3, 3, 0, 1, 3, 3, 0, 2, 2), api.OK))
	same(t, "Lamps of g", lamped(l, "g", span(38, 48)), all(lamps(0, 0, 0, 3, 3, 0, 2, 2, 1, 0), api.OK))
	same(t, "Lamps of no ticks", all(lamped(eventsJ, "f", span(0, 0)), lamped(eventsJ, "f", span(30, 30)), lamped(eventsJ, "f", span(999999999, 999999999))), all(all(lamps(), api.OK), all(lamps(), api.OK), all(lamps(), api.OK)))
	many, e := office.Lamps(eventsJ, "f", span(0, 256))
	last, again := office.Lamps(eventsJ, "f", span(999999743, 999999999))
	same(t, "Lamps of many ticks", all(len(many), many[29], many[30], many[120], many[121], e, len(last), last[255], again), all(256, 0, 1, 1, 2, api.OK, 256, 2, api.OK))
	call := func(a []any) []any { return lamped(a[0].([]api.Event), a[1].(string), a[2].(api.Span)) }
	checkErrors(t, "Lamps", call, all(lamps()), journals(), argumentOf("f", badThings("r")), argumentOf(span(28, 32), append(badSpans, longSpans...)))
}

func TestOnAir(t *testing.T) {
	alarm := further(eventsJ, "alarm f 31")
	for _, x := range []struct {
		ticks       api.Span
		want, short []api.Span
	}{
		{span(0, 200), spans(span(30, 200)), spans(span(30, 31))}, {span(0, 999999999), spans(span(30, 999999999)), spans(span(30, 31))},
		{span(0, 30), nil, nil}, {span(0, 31), spans(span(30, 31)), spans(span(30, 31))}, {span(30, 31), spans(span(30, 31)), spans(span(30, 31))}, {span(31, 40), spans(span(31, 40)), nil},
		{span(29, 32), spans(span(30, 32)), spans(span(30, 31))}, {span(100, 100), nil, nil}, {span(30, 30), nil, nil}, {span(0, 0), nil, nil}, {span(999999999, 999999999), nil, nil}, {span(999999998, 999999999), spans(span(999999998, 999999999)), nil},
	} {
		same(t, "OnAir", all(x.ticks, onAir(eventsJ, "f", x.ticks), onAir(alarm, "f", x.ticks)), all(x.ticks, all(x.want, api.OK), all(x.short, api.OK)))
	}
	// on and off at one tick, spans that touch, other facilities, and undo
	l := further(eventsJ, "off f 40", "on f 40", "facility g r 45 5", "on g 46", "off f 50", "on f 55", "off f 55", "on f 60", "alarm f 60", "reset f bob 65", "on f 65", "off g 68", "off f 70", "on f 75", "undo", "stock p 80 1")
	for _, x := range []struct {
		facility string
		ticks    api.Span
		want     []api.Span
	}{
		{"f", span(0, 100), spans(span(30, 50), span(65, 70))}, {"f", span(35, 66), spans(span(35, 50), span(65, 66))}, {"f", span(40, 50), spans(span(40, 50))}, {"f", span(50, 65), nil}, {"f", span(49, 66), spans(span(49, 50), span(65, 66))}, {"f", span(70, 999999999), nil},
		{"g", span(0, 100), spans(span(46, 68))}, {"g", span(0, 46), nil}, {"g", span(67, 90), spans(span(67, 68))},
	} {
		same(t, "OnAir of several", all(x.facility, x.ticks, onAir(l, x.facility, x.ticks)), all(x.facility, x.ticks, all(x.want, api.OK)))
	}
	same(t, "OnAir from 0", onAir(events("runway r 0", "facility f r 0 1", "on f 0"), "f", span(0, 5)), all(spans(span(0, 5)), api.OK))
	same(t, "OnAir at the end", onAir(events("runway r 0", "facility f r 0 1", "on f 999999998", "off f 999999999"), "f", span(0, 999999999)), all(spans(span(999999998, 999999999)), api.OK))
	call := func(a []any) []any { return onAir(a[0].([]api.Event), a[1].(string), a[2].(api.Span)) }
	checkErrors(t, "OnAir", call, all(spans()), journals(), argumentOf("f", badThings("r")), argumentOf(span(0, 200), badSpans))
}

// What follows compares all results with the definitions in other words.
func TestRandomService(t *testing.T) {
	r := numbers{5}
	inService, isUsable, dark := 0, 0, [4]int{}
	for i := range 200 {
		l := r.journal(60)
		last := registerOf(countingOf(l))
		for range 8 {
			tick, within, visibility := r.below(last.Tick+10), r.below(12), []int{99, 100, 299, 300, 549, 550, r.below(10001)}[r.below(7)]
			want := serviceableOf(l, tick)
			same(t, "Serviceable", all(i, tick, serviceable(l, tick)), all(i, tick, all(want, api.OK)))
			inService += len(want)
			same(t, "Due", all(i, tick, within, due(l, tick, within)), all(i, tick, within, all(dueOf(l, tick, within), api.OK)))
			for _, name := range last.Runways {
				want := usableOf(l, name, tick, visibility)
				same(t, "Usable", all(i, name, tick, visibility, usable(l, name, tick, visibility)), all(i, name, tick, visibility, all(want, api.OK)))
				isUsable += min(1, want)
			}
			for _, f := range last.Facilities {
				same(t, "Reasons", all(i, f.Name, tick, reasons(l, f.Name, tick)), all(i, f.Name, tick, all(reasonsOf(l, f.Name, tick), api.OK)))
			}
		}
		for _, f := range last.Facilities {
			from := r.below(last.Tick + 10)
			ticks := span(from, from+r.below(20))
			want := lampsOf(l, f.Name, ticks)
			same(t, "Lamps", all(i, f.Name, ticks, lamped(l, f.Name, ticks)), all(i, f.Name, ticks, all(want, api.OK)))
			same(t, "OnAir", all(i, f.Name, ticks, onAir(l, f.Name, ticks)), all(i, f.Name, ticks, all(onAirOf(l, f.Name, ticks), api.OK)))
			for _, lamp := range want {
				dark[lamp]++
			}
		}
	}
	same(t, "are there all", all(inService > 100, isUsable > 50, min(dark[0], dark[1], dark[2], dark[3]) > 100), all(true, true, true))
}
