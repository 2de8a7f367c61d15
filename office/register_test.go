package office_test

import (
	"slices"
	"strings"
	"testing"

	"glideslope/api"
	"glideslope/office"
)

// The tests of this file are those of P10.1.

func TestCheckEvent(t *testing.T) {
	long := "a" + strings.Repeat("_", 23)
	for _, s := range shapes {
		same(t, "CheckEvent of a shape", all(s, office.CheckEvent(shaped(1, s.kind, s.names, s.values))), all(s, api.OK))
	}
	for i, e := range []api.Event{event(1, "undo"), event(1000, "undo"), event(1, "on A9_z 999999999"), event(500, "take "+long+" "+long+" 0 0"), event(7, "facility f f 0 0"), event(7, "inspect f f 0 999999999"), event(7, "grant f 5 0"), {Number: 3, Kind: "undo", Names: []string{}, Values: []int{}}} {
		same(t, "CheckEvent of an event", all(i, office.CheckEvent(e)), all(i, api.OK))
	}
	for i, x := range badEvents(8) {
		same(t, "CheckEvent of a bad event", all(i, x.x.Kind, office.CheckEvent(x.x)), all(i, x.x.Kind, x.e))
	}
}

func TestReplayExamples(t *testing.T) {
	same(t, "Replay of nothing", replayed(nil), all(office.Register{}, 0, api.OK))
	same(t, "Replay of J", replayed(eventsJ), all(registerJ, 0, api.OK))
	new := office.Facility{Name: "f", Runway: "r", Period: 100, Inspected: -1, Adjusted: -1}
	adjusted := with(new, func(f *office.Facility) { f.Adjusted, f.Adjuster, f.Touched = 10, "ann", true })
	inspected := with(facilityJ, func(f *office.Facility) { f.Air = false })
	for _, x := range []struct {
		n, tick int
		f       office.Facility
	}{{4, 1, new}, {5, 10, adjusted}, {6, 20, inspected}} {
		want := with(registerJ, func(r *office.Register) { r.Tick, r.Facilities = x.tick, []office.Facility{x.f} })
		same(t, "Replay of the beginning of J", replayed(eventsJ[:x.n]), all(want, 0, api.OK))
	}
	for _, x := range []struct {
		lines  []string
		change func(f *office.Facility)
	}{
		{words("off f 40"), func(f *office.Facility) { f.Air = false }},
		{words("alarm f 40"), func(f *office.Facility) { f.Air, f.Alarm = false, true }},
		{words("alarm f 40", "reset f bob 41"), func(f *office.Facility) { f.Air = false }},
		{words("off f 40", "adjust f bob 41"), func(f *office.Facility) { f.Air, f.Adjusted, f.Adjuster, f.Touched = false, 41, "bob", true }},
		{words("off f 20"), nil},
		{words("undo"), func(f *office.Facility) { f.Air = false }},
		{words("inspect f bob 30 0"), func(f *office.Facility) { f.Inspected, f.Category = 30, 0 }},
		{words("grant ann 30 99"), func(f *office.Facility) {}},
		// at one tick it is the order of the events that decides
		{words("off f 40", "adjust f bob 40", "inspect f ann 40 1"), func(f *office.Facility) {
			f.Air, f.Adjusted, f.Adjuster, f.Inspected, f.Inspector, f.Category = false, 40, "bob", 40, "ann", 1
		}},
		{words("inspect f bob 40 1", "off f 40", "adjust f ann 40"), func(f *office.Facility) {
			f.Air, f.Adjusted, f.Inspected, f.Category, f.Touched = false, 40, 40, 1, true
		}},
	} {
		r, n, e := office.Replay(further(eventsJ, x.lines...))
		if x.change == nil {
			same(t, "Replay of J and a wrong event", all(r, n, e), all(office.Register{}, 8, api.ErrState))
			continue
		}
		same(t, "Replay of J and further events", all(r.Facilities, n, e), all([]office.Facility{with(facilityJ, x.change)}, 0, api.OK))
	}
}

func TestReplayOrders(t *testing.T) {
	l := events("stock p 0 3", "grant b 0 9", "runway r 0", "grant a 0 8", "runway f 0", "stock f 1 2", "facility z f 1 5", "facility f r 2 6", "stock p 2 4", "grant b 3 3", "take f z 4 2")
	same(t, "Replay", replayed(l), all(office.Register{
		Tick:        4,
		Runways:     words("r", "f"),
		Facilities:  []office.Facility{{Name: "z", Runway: "f", Period: 5, Inspected: -1, Adjusted: -1}, {Name: "f", Runway: "r", Period: 6, Inspected: -1, Adjusted: -1}},
		Technicians: []office.Technician{{Name: "b", Until: 3}, {Name: "a", Until: 8}},
		Parts:       []office.Part{{Name: "p", Count: 7}, {Name: "f", Count: 0}},
	}, 0, api.OK))
}

func TestReplayErrors(t *testing.T) {
	for i, x := range badJournals() {
		same(t, "Replay of bad events", all(i, replayed(x.l)), all(i, all(office.Register{}, x.number, x.e)))
	}
	r, n, e := office.Replay(manyEvents(1000))
	same(t, "Replay of many events", all(r.Tick, len(r.Facilities), n, e), all(31, 1, 0, api.OK))
}

func TestAccepts(t *testing.T) {
	for i, x := range refusals() {
		e := event(len(x.before)+1, x.line)
		same(t, "Accepts", all(i, x.line, office.Accepts(x.before, e)), all(i, x.line, x.e))
		for _, n := range []int{1, len(x.before), len(x.before) + 2, 1000} {
			if e.Number = max(1, n); e.Number != len(x.before)+1 {
				same(t, "Accepts with another number", all(x.line, n, office.Accepts(x.before, e)), all(x.line, n, api.ErrOrder))
			}
		}
		_, number, err := office.Replay(further(x.before, x.line))
		want := len(x.before) + 1
		if x.e == api.OK {
			want = 0
		}
		same(t, "Replay", all(i, x.line, number, err), all(i, x.line, want, x.e))
	}
	many := manyEvents(1000)
	for i, x := range badEvents(8) {
		same(t, "Accepts of a bad event", all(i, office.Accepts(eventsJ, x.x)), all(i, x.e))
		same(t, "Accepts of a bad event after many", all(i, office.Accepts(many, x.x)), all(i, x.e))
		same(t, "Accepts of a bad event after bad events", all(i, office.Accepts(eventsJ[1:], x.x)), all(i, api.ErrOrder))
	}
	same(t, "Accepts after many", all(office.Accepts(manyEvents(1000), event(1000, "off f 31")), office.Accepts(manyEvents(1000), event(1, "on x 0")), office.Accepts(manyEvents(1000), event(1001, "off f 31")), office.Accepts(manyEvents(999), event(1000, "off f 31")), office.Accepts(manyEvents(1001), event(1000, "off f 31"))), all(api.ErrMany, api.ErrMany, api.ErrRange, api.OK, api.ErrMany))
	checkErrors(t, "Accepts", func(a []any) []any { return all(office.Accepts(a[0].([]api.Event), a[1].(api.Event))) }, nil, journals(), argumentOf(event(8, "off f 40"), badEvents(8)))
}

func TestAsOfExamples(t *testing.T) {
	for _, x := range []struct{ tick, events, of int }{{0, 2, 0}, {1, 4, 1}, {9, 4, 1}, {10, 5, 10}, {19, 5, 10}, {20, 6, 20}, {29, 6, 20}, {30, 7, 30}, {999999999, 7, 30}} {
		r, _, _ := office.Replay(eventsJ[:x.events])
		same(t, "AsOf", all(x.tick, r.Tick, asOf(eventsJ, x.tick)), all(x.tick, x.of, all(r, api.OK)))
	}
	same(t, "AsOf nothing", all(asOf(nil, 0), asOf(events("runway r 5"), 4)), all(all(office.Register{}, api.OK), all(office.Register{}, api.OK)))
	// what does not count any more was never there
	l := events("runway r 5", "runway s 9", "undo", "runway t 7", "undo", "undo", "runway u 3")
	same(t, "AsOf with undo", all(asOf(l, 9), asOf(l, 2)), all(all(office.Register{Tick: 3, Runways: words("u")}, api.OK), all(office.Register{}, api.OK)))
	checkErrors(t, "AsOf", func(a []any) []any { return asOf(a[0].([]api.Event), a[1].(int)) }, all(office.Register{}), journals(), argumentOf(5, badTicks))
}

func TestRights(t *testing.T) {
	for _, x := range []struct {
		tick int
		want []string
	}{{0, nil}, {1, words("ann", "bob")}, {50, words("ann", "bob")}, {51, words("bob")}, {200, words("bob")}, {201, nil}, {999999999, nil}} {
		same(t, "Rights", all(x.tick, rights(eventsJ, x.tick)), all(x.tick, all(x.want, api.OK)))
	}
	l := further(eventsJ, "grant ann 60 70", "grant cat 61 61", "grant ann 62 65")
	for _, x := range []struct {
		tick int
		want []string
	}{{50, words("ann", "bob")}, {59, words("bob")}, {60, words("ann", "bob")}, {61, words("ann", "bob", "cat")}, {65, words("ann", "bob")}, {66, words("bob")}} {
		same(t, "Rights that are granted again", all(x.tick, rights(l, x.tick)), all(x.tick, all(x.want, api.OK)))
	}
	same(t, "Rights of nobody", rights(nil, 0), all(words(), api.OK))
	checkErrors(t, "Rights", func(a []any) []any { return rights(a[0].([]api.Event), a[1].(int)) }, all(words()), journals(), argumentOf(5, badTicks))
}

func TestInspectors(t *testing.T) {
	l := further(eventsJ, "off f 60", "adjust f bob 60", "facility g r 61 5", "grant ann 61 62")
	for _, x := range []struct {
		facility string
		tick     int
		want     []string
	}{{"f", 0, nil}, {"f", 1, words("ann", "bob")}, {"f", 9, words("ann", "bob")}, {"f", 10, words("bob")}, {"f", 15, words("bob")}, {"f", 59, words("bob")}, {"f", 60, nil}, {"f", 61, words("ann")}, {"f", 62, words("ann")}, {"f", 63, nil}, {"g", 60, nil}, {"g", 0, nil}, {"g", 20, nil}, {"g", 61, words("ann", "bob")}, {"g", 63, words("bob")}, {"g", 201, nil}} {
		same(t, "Inspectors", all(x.facility, x.tick, inspectors(l, x.facility, x.tick)), all(x.facility, x.tick, all(x.want, api.OK)))
	}
	checkErrors(t, "Inspectors", func(a []any) []any { return inspectors(a[0].([]api.Event), a[1].(string), a[2].(int)) }, all(words()), journals(), argumentOf("f", badThings("r")), argumentOf(15, badTicks))
}

func TestStock(t *testing.T) {
	l := further(eventsJ, "stock fuse 32 5", "stock f 32 9", "take fuse f 33 3")
	same(t, "Stock", all(stocked(l, "fuse"), stocked(l, "f"), office.Accepts(l, event(11, "take fuse f 34 3"))), all(all(2, api.OK), all(9, api.OK), api.ErrShort))
	l = further(l, "take fuse f 34 2")
	same(t, "Stock of what was taken", all(stocked(l, "fuse"), stocked(further(l, "undo", "undo"), "fuse"), stocked(further(l, "stock fuse 34 10000"), "fuse")), all(all(0, api.OK), all(5, api.OK), all(10000, api.OK)))
	same(t, "Stock of what was never there", all(stocked(further(eventsJ, "stock fuse 32 5", "undo"), "fuse")), all(all(0, api.ErrUnknown)))
	call := func(a []any) []any { return stocked(a[0].([]api.Event), a[1].(string)) }
	checkErrors(t, "Stock", call, all(0), journals(), argumentOf("fuse", badThings("f", "r")))
}

func TestStory(t *testing.T) {
	l := events("grant ann 0 9", "stock f 0 5", "runway s 0", "runway r 1", "runway f 1", "facility g r 1 5", "facility f r 2 6", "adjust g ann 2", "take f f 3 1", "take f g 3 1", "adjust f ann 4", "on f 4", "undo", "grant bob 5 9", "inspect f bob 6 1", "inspect g bob 6 1", "on g 6", "on f 6", "alarm f 7", "alarm g 7", "reset g ann 8", "reset f ann 8", "on f 8", "off f 9")
	same(t, "Story of f", told(l, "f"), all(events("grant ann 0 9", "runway r 1", "facility f r 2 6", "adjust f ann 4", "grant bob 5 9", "inspect f bob 6 1", "on f 6", "alarm f 7", "reset f ann 8", "on f 8", "off f 9"), api.OK))
	same(t, "Story of g", told(l, "g"), all(events("grant ann 0 9", "runway r 1", "facility g r 1 5", "adjust g ann 2", "grant bob 5 9", "inspect g bob 6 1", "on g 6", "alarm g 7", "reset g ann 8"), api.OK))
	same(t, "Story of J", told(eventsJ, "f"), all(eventsJ, api.OK))
	checkErrors(t, "Story", func(a []any) []any { return told(a[0].([]api.Event), a[1].(string)) }, all([]api.Event{}), journals(), argumentOf("f", badThings("r")))
}

// What follows compares all results with the definitions in other words.
func TestRandomRegisters(t *testing.T) {
	r := numbers{3}
	counts := map[api.Errno]int{}
	for i := range 300 {
		l := r.journal(60)
		counting := countingOf(l)
		same(t, "Replay", all(i, replayed(l)), all(i, all(registerOf(counting), 0, api.OK)))
		last := registerOf(counting).Tick
		for range 5 {
			tick := r.below(last + 20)
			same(t, "AsOf", all(i, tick, asOf(l, tick)), all(i, tick, all(registerAt(l, tick), api.OK)))
			same(t, "Rights", all(i, tick, rights(l, tick)), all(i, tick, all(rightsOf(l, tick), api.OK)))
			for _, f := range registerOf(counting).Facilities {
				same(t, "Inspectors", all(i, f.Name, tick, inspectors(l, f.Name, tick)), all(i, f.Name, tick, all(inspectorsOf(l, f.Name, tick), api.OK)))
			}
		}
		for _, p := range registerOf(counting).Parts {
			same(t, "Stock", all(i, p.Name, stocked(l, p.Name)), all(i, p.Name, all(countOf(counting, p.Name), api.OK)))
		}
		for _, f := range registerOf(counting).Facilities {
			same(t, "Story", all(i, f.Name, told(l, f.Name)), all(i, f.Name, all(storyOf(l, f.Name), api.OK)))
		}
		for range 60 {
			e := event(len(l)+1, r.line(last))
			if slices.Contains(e.Values, -1) {
				continue
			}
			want := errorOf(l, e)
			same(t, "Accepts", all(i, e, office.Accepts(l, e)), all(i, e, want))
			counts[want]++
		}
	}
	for _, e := range []api.Errno{api.OK, api.ErrState, api.ErrUnknown, api.ErrTwice, api.ErrRange, api.ErrOld, api.ErrRight, api.ErrOpen, api.ErrHeld, api.ErrNone, api.ErrLocked, api.ErrShort, api.ErrRule} {
		if counts[e] < 20 {
			t.Errorf("there are only %d events with the error %d", counts[e], e)
		}
	}
}
