package office_test

import (
	"fmt"
	"slices"
	"strconv"
	"strings"
	"testing"

	"glideslope/api"
	"glideslope/office"
)

// The tests of this file are those of P10.4.

// opened returns a session with events.
func opened(t *testing.T, l []api.Event) *office.Session {
	t.Helper()
	s, e := office.Open(logOf(l))
	if s == nil || e != api.OK {
		t.Fatalf("Open of a log: got %v, %d", s, e)
	}
	return s
}

// stateOf returns the events and the log of a session.
func stateOf(s *office.Session) []any { return all(s.Events(), s.Log()) }

func TestSession(t *testing.T) {
	s := office.New()
	same(t, "New", stateOf(s), all([]api.Event{}, ""))
	for i, line := range linesJ {
		same(t, "Do", all(line, done(s, line), s.Events(), s.Log()), all(line, all(fmt.Sprintf("entered %d", i+1), api.OK), eventsJ[:i+1], logOf(eventsJ[:i+1])))
	}
	same(t, "Do undo", all(done(s, "undo"), done(s, "lamp f 30"), done(s, "undo"), done(s, "on f 20"), stateOf(s)), all(all("entered 8", api.OK), all("dark", api.OK), all("", api.ErrRule), all("entered 9", api.OK), stateOf(opened(t, further(eventsJ, "undo", "on f 20")))))
	// two sessions are two
	other := office.New()
	done(other, "runway x 5")
	same(t, "another session", all(done(other, "runway r 6"), len(other.Events()), len(s.Events())), all(all("entered 2", api.OK), 2, 9))
}

func TestZeroSessions(t *testing.T) {
	var none *office.Session
	for _, line := range words("", "runway r 0", "rights 0", "x", strings.Repeat("x", 5000)) {
		same(t, "Do of nil", all(line, done(none, line), stateOf(none)), all(line, all("", api.ErrState), all([]api.Event{}, "")))
	}
	var zero office.Session
	same(t, "Do of a zero session", all(done(&zero, "rights 0"), done(&zero, "runway r 0"), stateOf(&zero)), all(all("none", api.OK), all("entered 1", api.OK), all(events("runway r 0"), recordOf(event(1, "runway r 0")))))
}

func TestQuestions(t *testing.T) {
	l := further(eventsJ, "facility g r 40 5", "stock fuse 41 5", "take fuse f 42 3", "alarm g 43", "stock f 44 1", "take f f 44 1", "runway s 44", "inspect g ann 45 0")
	s := opened(t, l)
	for line, want := range map[string]string{
		"reasons f 5": "inspection off", "reasons f 15": "inspection adjusted off", "reasons f 30": "none", "reasons f 121": "due", "reasons g 39": "none", "reasons g 43": "inspection alarm off", "reasons f 999999999": "due", "reasons f 0": "inspection off", "reasons g 51": "inspection due alarm off",
		"usable r 39 300": "2", "usable r 39 299": "0", "usable r 40 600": "0", "usable s 50 600": "0", "usable s 0 600": "0", "usable r 39 10000": "2", "usable r 39 0": "0", "usable r 999999999 600": "0",
		"rights 0": "none", "rights 1": "ann bob", "rights 51": "bob", "rights 201": "none", "rights 999999999": "none",
		"spares fuse": "2", "spares f": "0",
		"why f": "f r 100 20 2 bob 10 ann", "why g": "g r 5 45 0 ann -1 -",
		"lamp f 30": "green", "lamp f 29": "dark", "lamp f 121": "yellow", "lamp g 43": "red", "lamp g 39": "dark", "lamp f 999999999": "yellow", "lamp g 999999999": "red", "lamp f 0": "dark",
	} {
		same(t, "Do of a question", all(line, done(s, line)), all(line, all(want, api.OK)))
	}
	// technicians are known as of a tick
	same(t, "Do of usable and why", all(done(opened(t, eventsJ), "usable r 40 300"), done(opened(t, eventsJ[:6]), "why f")), all(all("2", api.OK), all("f r 100 20 2 bob 10 ann", api.OK)))
	same(t, "the session", stateOf(s), all(l, logOf(l)))
}

// badLines returns lines with their errors in a session with J.
func badLines() []bad[string] {
	var out []bad[string]
	add := func(e api.Errno, l ...string) {
		for _, s := range l {
			out = append(out, bad[string]{s, e})
		}
	}
	add(api.ErrLong, strings.Repeat("x", 4097), "off f 40"+strings.Repeat(" ", 4090), strings.Repeat(" ", 1000000), "runway "+strings.Repeat("r", 4090)+" 40")
	add(api.ErrSyntax, "")
	add(api.ErrKind, " ", "  ", " off f 40", "x", "Off f 40", "OFF", "offf f 40", "off\tf 40", "off\n", "\n", "entered 8", "8 off f 40", "none", "events", "log", "Lamp f 30", "lamps f 30", "spare fuse", strings.Repeat("x", 4096), "\x00", "undo\n", "reason f 5", "#")
	add(api.ErrSyntax, "off", "off ", "off f", "off f ", "off  40", "off f 40 ", "off f  40", "off  f 40", "off f 40 1", "off f g 40", "off f x", "off f -1", "off f 040", "off f +40", "off f 4x", "off f 40\n", "off f 1000000000", "off f 0000000040", "off f 00", "off f 40.0", "off 40 f", "undo ", "undo 0", "undo x", "runway", "runway r", "runway 40", "runway s 40 1", "facility g r 40", "facility g 40 5", "grant cat 40", "grant 40 50", "adjust f 40", "adjust f ann 40 1", "inspect f bob 40", "inspect f 40 1", "inspect f bob 40 -1", "reset f 40", "stock lamp 40", "take fuse 40 1", "take fuse f 40", "take fuse f g 40 1", "on f 29 "+strings.Repeat("x", 4088))
	add(api.ErrName, "runway 9 40", "runway s- 40", "runway a\nb 40", "off f# 40", "off "+strings.Repeat("f", 25)+" 40", "off \u00e9 40", "off 40 40", "grant 40 50 50", "off -1 29", "stock \x00 40 0", "runway "+strings.Repeat("r", 4086)+" 40")
	for _, x := range refusals() {
		if slices.Equal(shownEach(x.before), shownEach(eventsJ)) && x.e != api.OK {
			add(x.e, x.line)
		}
	}
	for _, s := range words("reasons", "lamp") {
		add(api.ErrSyntax, s, s+" ", s+" f", s+" f ", s+"  5", s+" f 5 ", s+" f  5", s+" f 5 5", s+" f g 5", s+" f x", s+" f -1", s+" f 05", s+" f +5", s+" f 5\n", s+" f 1000000000", s+" g x", s+" 5", s+" g")
		add(api.ErrUnknown, s+" g 5", s+" r 5", s+" F 5", s+" 5 5", s+" f\n 5", s+" fuse 5", s+" "+strings.Repeat("f", 4080)+" 5")
	}
	add(api.ErrSyntax, "usable", "usable ", "usable r", "usable r 40", "usable r 40 ", "usable r  300", "usable r 40 300 ", "usable r 40 300 1", "usable r 40 x", "usable r x 300", "usable r 40 -1", "usable r 040 300", "usable r 40 0300", "usable r 40 1000000000", "usable g 40 x", "usable 40 300", "usable r s 40 300")
	add(api.ErrUnknown, "usable f 40 300", "usable s 40 300", "usable s 40 10001", "usable 40 40 300")
	add(api.ErrRange, "usable r 40 10001", "usable r 40 999999999", "usable r 0 10001")
	add(api.ErrSyntax, "rights", "rights ", "rights x", "rights 5 ", "rights 5 5", "rights -1", "rights 05", "rights ann 5", "rights 1000000000", "rights  5", "rights 5\n")
	for _, s := range words("spares", "why") {
		add(api.ErrSyntax, s, s+" ", s+" f ", s+"  f", s+" f 5", s+" x ", s+" x 5", s+" fuse f")
		add(api.ErrUnknown, s+" x", s+" r", s+" 5", s+" f\n", s+" "+strings.Repeat("f", 4080))
	}
	add(api.ErrUnknown, "spares f", "why fuse")
	return out
}

// shownEach returns events so that they can be compared.
func shownEach(l []api.Event) []string {
	var out []string
	for _, e := range l {
		out = append(out, shown(e))
	}
	return out
}

func TestDoErrors(t *testing.T) {
	s := opened(t, eventsJ)
	for i, x := range badLines() {
		same(t, "Do", all(i, x.x, done(s, x.x)), all(i, x.x, all("", x.e)))
	}
	same(t, "the session after errors", stateOf(s), all(eventsJ, logJ))
	same(t, "Do after errors", all(done(s, "off f 40"), done(s, "stock fuse 40 5"), done(s, "take fuse f 40 6"), done(s, "take fuse f 40 5")), all(all("entered 8", api.OK), all("entered 9", api.OK), all("", api.ErrShort), all("entered 10", api.OK)))
	new := office.New()
	same(t, "Do without events", all(done(new, "undo"), done(new, "why f"), done(new, "lamp f 0"), done(new, "spares p"), done(new, "usable r 0 10001"), done(new, "reasons f 0"), done(new, "rights 0"), stateOf(new)), all(all("", api.ErrEmpty), all("", api.ErrUnknown), all("", api.ErrUnknown), all("", api.ErrUnknown), all("", api.ErrUnknown), all("", api.ErrUnknown), all("none", api.OK), all([]api.Event{}, "")))
	same(t, "Do why without an inspection", all(done(opened(t, eventsJ[:5]), "why f"), done(opened(t, eventsJ[:2]), "why f")), all(all("", api.ErrEmpty), all("", api.ErrEmpty)))
}

// The longest line is one of 4096 bytes.
func TestLongLines(t *testing.T) {
	s := office.New()
	done(s, "runway r 0")
	for _, line := range words("lamp "+strings.Repeat("f", 4089)+" 5", "usable "+strings.Repeat("r", 4083)+" 0 600", "why "+strings.Repeat("f", 4092), "spares "+strings.Repeat("f", 4089)) {
		same(t, "Do of a long line", all(len(line), done(s, line), done(s, line+"0")), all(4096, all("", api.ErrUnknown), all("", api.ErrLong)))
	}
}

func TestManyEvents(t *testing.T) {
	l := manyEvents(1000)
	s := opened(t, l[:999])
	full := logOf(l)
	same(t, "Do of the last event", all(done(s, "on x 31"), done(s, words("off f 31", "on f 31")[(999-len(linesJ))%2]), len(s.Events()), s.Log() == full), all(all("", api.ErrUnknown), all("entered 1000", api.OK), 1000, true))
	for _, x := range []struct {
		line, want string
		e          api.Errno
	}{{"off f 31", "", api.ErrMany}, {"off x 31", "", api.ErrMany}, {"off 9 31", "", api.ErrMany}, {"undo", "", api.ErrMany}, {"off f", "", api.ErrSyntax}, {"undo ", "", api.ErrSyntax}, {"x", "", api.ErrKind}, {"rights 1", "ann bob", api.OK}} {
		same(t, "Do after many", all(x.line, done(s, x.line)), all(x.line, all(x.want, x.e)))
	}
	same(t, "the session", all(len(s.Events()), s.Log() == full), all(1000, true))
}

func TestOpen(t *testing.T) {
	for i, x := range badRests() {
		s, e := office.Open(logJ + x.x)
		if x.e != api.ErrTorn {
			same(t, "Open with an error", all(i, x.x, s == nil, e), all(i, x.x, true, x.e))
			continue
		}
		same(t, "Open of a torn log", all(i, e, stateOf(s), done(s, "off f 40")), all(i, api.OK, all(eventsJ, logJ), all("entered 8", api.OK)))
	}
	tried := 0
	for i, x := range badJournals() {
		if l, _, e := office.Recover(logOf(x.l)); e != api.OK || shown(l) != shown(x.l) {
			continue // a log has no such events
		}
		tried++
		for _, rest := range words("", "x") {
			s, e := office.Open(logOf(x.l) + rest)
			same(t, "Open of events that are not accepted", all(i, s == nil, e), all(i, true, x.e))
		}
	}
	same(t, "are there logs with errors", all(tried > 100), all(true))
	s, e := office.Open("")
	same(t, "Open of nothing", all(e, stateOf(s), done(s, "runway r 0")), all(api.OK, all([]api.Event{}, ""), all("entered 1", api.OK)))
	s, e = office.Open(strings.Repeat("x", 1000001))
	same(t, "Open of a long one", all(s == nil, e), all(true, api.ErrLong))
	for i := range logJ {
		s, e := office.Open(logJ[:i])
		n := strings.Count(logJ[:i], "\n")
		same(t, "Open of a log that is cut off", all(i, e, stateOf(s)), all(i, api.OK, all(eventsJ[:n], logOf(eventsJ[:n]))))
	}
}

// answerOf is the result of a question in other words, and its error.
func answerOf(l []api.Event, line string) (string, api.Errno) {
	w := strings.Split(line, " ")
	last := registerOf(countingOf(l))
	n := func(i int) int { x, _ := strconv.Atoi(w[i]); return x }
	list := func(l []string) string {
		return strings.Join(append(l, map[bool][]string{true: words("none")}[len(l) == 0]...), " ")
	}
	sort := map[string]string{"usable": "runway", "spares": "part"}[w[0]]
	if sort == "" {
		sort = "facility"
	}
	if w[0] != "rights" && !knownOf(last, sort, w[1]) {
		return "", api.ErrUnknown
	}
	switch w[0] {
	case "reasons":
		return list(reasonsOf(l, w[1], n(2))), api.OK
	case "usable":
		return fmt.Sprint(usableOf(l, w[1], n(2), n(3))), api.OK
	case "rights":
		return list(rightsOf(l, n(1))), api.OK
	case "spares":
		return fmt.Sprint(countOf(countingOf(l), w[1])), api.OK
	case "lamp":
		return words("dark", "green", "yellow", "red")[lampOf(l, w[1], n(2))], api.OK
	}
	if p, is := proofOf(l, w[1]); is {
		return textOf(p), api.OK
	}
	return "", api.ErrEmpty
}

func TestRandomSessions(t *testing.T) {
	r := numbers{11}
	for i := range 100 {
		s := office.New()
		var l []api.Event
		for range 60 {
			tick := registerOf(countingOf(l)).Tick
			line := r.line(tick)
			if !strings.Contains(line, "-") {
				want, e := "", errorOf(l, event(len(l)+1, line))
				if e == api.OK {
					l = further(l, line)
					want = fmt.Sprintf("entered %d", len(l))
				}
				same(t, "Do", all(i, line, done(s, line)), all(i, line, all(want, e)))
			}
			at := r.below(tick + 10)
			facility := r.of(facilityNames...)
			question := r.of(fmt.Sprint("reasons ", facility, " ", at), fmt.Sprint("lamp ", facility, " ", at), fmt.Sprint("rights ", at), "why "+facility, "spares "+r.of(partNames...), fmt.Sprint("usable ", r.of(runwayNames...), " ", at, " ", r.below(10001)))
			want, e := answerOf(l, question)
			same(t, "Do", all(i, question, done(s, question)), all(i, question, all(want, e)))
		}
		same(t, "the session", stateOf(s), all(l, logOf(l)))
	}
}
