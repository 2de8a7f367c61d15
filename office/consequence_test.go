package office_test

import (
	"fmt"
	"math"
	"slices"
	"strings"
	"testing"

	"glideslope/api"
	"glideslope/office"
)

// The tests of this file are those of P10.5, and of the rules that hold for all functions: P1, memory and determinism.

func TestOffTheAirInAlarm(t *testing.T) {
	r := numbers{13}
	alarms, airs, inService := 0, 0, 0
	for i := range 150 {
		l := r.journal(60)
		for tick := range registerOf(countingOf(l)).Tick + 10 {
			register, e := office.AsOf(l, tick)
			names, again := office.Serviceable(l, tick)
			same(t, "AsOf, Serviceable", all(i, tick, e, again), all(i, tick, api.OK, api.OK))
			for _, f := range register.Facilities {
				if f.Alarm {
					alarms++
				}
				if f.Air {
					airs++
				}
				same(t, "on the air in alarm", all(i, tick, f, f.Air && f.Alarm), all(i, tick, f, false))
				if slices.Contains(names, f.Name) {
					inService++
					same(t, "in service", all(i, tick, f, f.Inspector != f.Adjuster, f.Inspector != "", f.Inspected <= tick && tick <= f.Inspected+f.Period, f.Touched, f.Adjusted <= f.Inspected, f.Air), all(i, tick, f, true, true, true, false, true, true))
				}
			}
		}
	}
	same(t, "are there all", all(alarms > 1000, airs > 1000, inService > 500), all(true, true, true))
}

func TestLesserVisibilities(t *testing.T) {
	r := numbers{15}
	counts := map[bool]int{}
	for i := range 300 {
		l := r.journal(50)
		last := registerOf(countingOf(l))
		for range 20 {
			runway, tick, more := last.Runways[r.below(len(last.Runways))], r.below(last.Tick+3), r.below(1000)
			less := r.below(more + 1)
			category, e := office.Usable(l, runway, tick, more)
			lesser, again := office.Usable(l, runway, tick, less)
			same(t, "Usable", all(i, runway, tick, more, less, e, again, lesser == category || lesser == 0), all(i, runway, tick, more, less, api.OK, api.OK, true))
			if category > 0 {
				counts[lesser == 0]++
			}
		}
	}
	same(t, "are there both", all(counts[true] > 30, counts[false] > 30), all(true, true))
}

func TestColoursOfLamps(t *testing.T) {
	r := numbers{17}
	for i := range 100 {
		l := r.journal(60)
		last := registerOf(countingOf(l))
		for _, f := range last.Facilities {
			lamps, e := office.Lamps(l, f.Name, span(0, last.Tick+10))
			same(t, "Lamps", all(i, e, len(lamps)), all(i, api.OK, last.Tick+10))
			for tick, lamp := range lamps {
				why, e := office.Reasons(l, f.Name, tick)
				same(t, "the lamp and the reasons", all(i, f.Name, tick, e, lamp == office.Red, lamp == office.Green), all(i, f.Name, tick, api.OK, slices.Contains(why, "alarm"), len(why) == 0))
			}
		}
	}
}

func TestCutSpans(t *testing.T) {
	r := numbers{19}
	several := 0
	for i := range 150 {
		l := r.journal(150)
		last := registerOf(countingOf(l))
		for _, f := range last.Facilities {
			whole, e := office.OnAir(l, f.Name, span(0, last.Tick+20))
			var want, got []int
			for _, s := range whole {
				for tick := s.From; tick < s.To; tick++ {
					want = append(want, tick)
				}
			}
			for from := 0; from < last.Tick+20; {
				to := min(last.Tick+20, from+r.below(9))
				part, e := office.OnAir(l, f.Name, span(from, to))
				same(t, "OnAir of a part", all(i, e), all(i, api.OK))
				for k, s := range part {
					if s.From < from || s.From >= s.To || s.To > to || k > 0 && s.From <= part[k-1].To {
						t.Errorf("OnAir of %v: got %v", span(from, to), part)
					}
					for tick := s.From; tick < s.To; tick++ {
						got = append(got, tick)
					}
				}
				from = to
			}
			same(t, "OnAir in parts", all(i, f.Name, e, got), all(i, f.Name, api.OK, want))
			if len(whole) > 1 {
				several++
			}
		}
	}
	same(t, "are there several spans", all(several > 50), all(true))
}

func TestSpares(t *testing.T) {
	r := numbers{21}
	parts := 0
	for i := range 300 {
		l := r.journal(60)
		for n := range l {
			register, _, e := office.Replay(l[:n+1])
			same(t, "Replay", all(i, e), all(i, api.OK))
			for _, p := range register.Parts {
				parts++
				same(t, "spares", all(i, n, p, p.Count >= 0), all(i, n, office.Part{Name: p.Name, Count: countOf(countingOf(l[:n+1]), p.Name)}, true))
			}
		}
	}
	same(t, "are there parts", all(parts > 1000), all(true))
}

func TestStoriesAreAccepted(t *testing.T) {
	r := numbers{23}
	for i := range 300 {
		l := r.journal(60)
		register, _, _ := office.Replay(l)
		for _, f := range register.Facilities {
			story, e := office.Story(l, f.Name)
			again, n, err := office.Replay(story)
			same(t, "Replay of a story", all(i, f.Name, e, n, err, again.Facilities, again.Technicians), all(i, f.Name, api.OK, 0, api.OK, []office.Facility{f}, register.Technicians))
			same(t, "Story of a story", told(story, f.Name), all(story, api.OK))
		}
	}
}

func TestUndoTakesBackOne(t *testing.T) {
	r := numbers{25}
	counts := map[api.Errno]int{}
	for i := range 400 {
		l := r.journal(40)
		before, _, _ := office.Replay(l[:len(l)-1])
		after, n, e := office.Replay(further(l, "undo"))
		counts[e]++
		last := l[len(l)-1].Kind
		switch {
		case e == api.ErrRule:
			same(t, "Replay of undo", all(i, n, after), all(i, len(l)+1, office.Register{}))
		case last != "undo":
			same(t, "Replay of undo", all(i, n, e, after), all(i, 0, api.OK, before))
		default: // one more of those that count
			counting := countingOf(l)
			same(t, "Replay of undo", all(i, n, e, after), all(i, 0, api.OK, registerOf(counting[:len(counting)-1])))
		}
	}
	same(t, "are there both", all(counts[api.OK] > 50, counts[api.ErrRule] > 50), all(true, true))
}

// isBeginning reports whether events are the first ones of others.
func isBeginning(l, whole []api.Event) bool {
	return len(l) <= len(whole) && slices.EqualFunc(l, whole[:len(l)], func(a, b api.Event) bool {
		return a.Number == b.Number && a.Kind == b.Kind && slices.Equal(a.Names, b.Names) && slices.Equal(a.Values, b.Values) && a.Text == b.Text
	})
}

func TestEventsThatWereThere(t *testing.T) {
	r := numbers{27}
	l := r.journal(12)
	log := logOf(l)
	for i := range len(log) + 1 {
		got, n, e := office.Recover(log[:i])
		s, err := office.Open(log[:i])
		if whole := strings.Count(log[:i], "\n"); len(got) != whole || !isBeginning(got, l) || n > i || (e == api.OK) != (n == i) || err != api.OK || !isBeginning(s.Events(), l) || len(s.Events()) != whole {
			t.Errorf("of %q cut off at %d: got %v, %d, %d, %d", log, i, got, n, e, err)
		}
		if i == len(log) {
			continue
		}
		for b := range 256 {
			changed := log[:i] + string([]byte{byte(b)}) + log[i+1:]
			got, n, e := office.Recover(changed)
			whole := strings.Count(log[:i], "\n")
			if byte(b) == log[i] {
				whole = len(l)
			}
			if len(got) != whole || !isBeginning(got, l) || n > len(log) || (e == api.OK) != (byte(b) == log[i]) {
				t.Errorf("of %q: got %v, %d, %d", changed, got, n, e)
			}
		}
	}
}

// P1: no function panics, whatever its arguments are.
func TestNoPanics(t *testing.T) {
	ints := []int{math.MinInt, -1, 0, 1, 40, 1000, 1000000000, math.MaxInt}
	journals := [][]api.Event{nil, {{}}, {{Number: 1, Kind: "on"}}, {{Number: 1, Kind: "undo"}}, {{Number: 1, Kind: "take", Names: words("a"), Values: []int{1}}}, eventsJ, eventsJ[:2], eventsJ[3:], events("runway r 0", "undo", "undo"), make([]api.Event, 1001), further(eventsJ, "undo", "facility g r 20 999999999")}
	for _, x := range badEvents(8) {
		noPanic(t, "events", func() {
			office.CheckEvent(x.x)
			office.Accepts(nil, x.x)
			office.Append(logJ, x.x)
			office.Replay([]api.Event{x.x})
			office.Story([]api.Event{x.x}, "f")
		})
	}
	for _, l := range journals {
		for _, name := range words("", "f", "r", "g", "x") {
			for _, a := range ints {
				noPanic(t, "questions", func() {
					office.Replay(l)
					office.AsOf(l, a)
					office.Reasons(l, name, a)
					office.Serviceable(l, a)
					office.Rights(l, a)
					office.Inspectors(l, name, a)
					office.Stock(l, name)
					office.Provenance(l, name)
					office.CheckProvenance(l, name, office.Proof{Period: a})
					office.Mark(l, name, api.Key{byte(a)})
					office.Story(l, name)
					for _, b := range ints {
						office.Usable(l, name, a, b)
						office.Due(l, a, b)
						office.Lamps(l, name, span(a, b))
						office.OnAir(l, name, span(a, b))
						office.Accepts(l, api.Event{Number: a, Kind: "stock", Names: words(name), Values: []int{a, b}})
						office.Accepts(l, api.Event{Number: 8, Kind: "inspect", Names: words(name, "bob"), Values: []int{a, b}})
						office.Append("", api.Event{Number: 1, Kind: "grant", Names: words(name), Values: []int{a, b}})
					}
				})
			}
		}
	}
	r := numbers{29}
	s := office.New()
	for range 5000 {
		b := make([]byte, r.below(40))
		for i := range b {
			b[i] = []byte{' ', ' ', '\n', '#', '0', '1', 'f', 'r', byte(r.below(256))}[r.below(9)]
		}
		text := string(b)
		noPanic(t, "strings", func() {
			office.Recover(text)
			office.Open(text)
			office.Recover(logJ + text)
			office.Recover(logJ + sealed(text))
			office.Open(logJ + sealed("8 "+text))
			office.Append(text, event(1, "undo"))
			s.Do(text)
			s.Do(r.of("runway ", "facility ", "on ", "take ", "undo", "lamp ", "usable ", "rights ", "why ", "spares ") + text)
		})
	}
}

// spoilt overwrites all that a list has, also behind its end, and returns whether it has anything.
func spoilt[T any](l []T) bool {
	var zero T
	for i := range l[:cap(l)] {
		l[:cap(l)][i] = zero
	}
	return len(l) > 0
}

// Arguments stay as they are, and a result that is changed changes neither an argument nor a later result.
func TestMemory(t *testing.T) {
	long := further(severalL, "stock fuse 41 5", "grant cat 42 50", "runway t 43", "facility k t 43 9", "stock lamp 44 1", "undo")
	l := long[:len(severalL)+3] // what is behind a list is not written to
	before := shown(long)
	once := func() string {
		register, _, _ := office.Replay(l)
		then, _ := office.AsOf(l, 35)
		why, _ := office.Reasons(l, "f", 10)
		names, _ := office.Serviceable(l, 40)
		due, _ := office.Due(l, 33, 1000)
		lamps, _ := office.Lamps(l, "f", span(28, 32))
		spans, _ := office.OnAir(l, "f", span(0, 50))
		rights, _ := office.Rights(l, 45)
		who, _ := office.Inspectors(l, "f", 45)
		story, _ := office.Story(l, "f")
		found, _, _ := office.Recover(logOf(l))
		out := shown(register, then, why, names, due, lamps, spans, rights, who, story, found)
		for _, x := range append(slices.Clone(story), found...) {
			spoilt(x.Names)
			spoilt(x.Values)
		}
		are := all(spoilt(why), spoilt(names), spoilt(due), spoilt(lamps), spoilt(spans), spoilt(rights), spoilt(who), spoilt(story), spoilt(found))
		for _, x := range []office.Register{register, then} {
			are = append(are, spoilt(x.Runways), spoilt(x.Facilities), spoilt(x.Technicians))
		}
		spoilt(register.Parts)
		same(t, "are there results", are, all(slices.Repeat([]any{true}, 15)...))
		return out
	}
	want := once()
	for range 3 {
		same(t, "results again", all(once()), all(want))
	}
	same(t, "arguments", all(shown(long)), all(before))
}

// The events of a session are its own.
func TestMemoryOfSessions(t *testing.T) {
	s := opened(t, eventsJ)
	for _, line := range words("off f 40", "on f 41") {
		before := shown(stateOf(s)...)
		for _, e := range s.Events() {
			spoilt(e.Names)
			spoilt(e.Values)
		}
		spoilt(s.Events())
		same(t, "the session", all(shown(stateOf(s)...)), all(before))
		done(s, line)
	}
	earlier := s.Events()
	before := shown(earlier)
	done(s, "undo")
	done(s, "on f 42")
	same(t, "earlier events", all(shown(earlier), len(s.Events())), all(before, 11))
}

// Results do not depend on the order of the maps in which kinds and questions are found.
func TestDeterminism(t *testing.T) {
	l := further(severalL, "stock fuse 41 5")
	results := func() string {
		return fmt.Sprint(replayed(l), reasons(l, "f", 10), serviceable(l, 40), due(l, 33, 1000), rights(l, 45), told(l, "g"), marked(l, "f", api.Key{1}), recovered(logOf(l)), done(opened(t, l), "why f"))
	}
	want := results()
	for range 50 {
		same(t, "results again", all(results()), all(want))
	}
}
