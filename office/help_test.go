package office_test

import (
	"fmt"
	"slices"
	"strconv"
	"strings"
	"testing"

	"glideslope/api"
	"glideslope/office"
)

// shown writes values so that all that is different looks different, but for nil and empty lists.
func shown(l ...any) string {
	return strings.ReplaceAll(fmt.Sprintf("%#v", l), "(nil)", "{}")
}

// same compares results with the expected ones.
func same(t *testing.T, what string, got, want []any) {
	t.Helper()
	if g, w := shown(got...), shown(want...); g != w {
		t.Errorf("%s:\n got %s\nwant %s", what, g, w)
	}
}

// all is its arguments as a list: the results of a call.
func all(l ...any) []any { return l }

// noPanic fails the test if a function panics.
func noPanic(t *testing.T, what string, f func()) {
	t.Helper()
	defer func() {
		if x := recover(); x != nil {
			t.Errorf("%s panics: %v", what, x)
		}
	}()
	f()
}

// with returns a value after a change.
func with[T any](x T, change func(x *T)) T {
	change(&x)
	return x
}

// words, lamps and spans are their arguments as lists.
func words(l ...string) []string { return l }

func lamps(l ...int) []int { return l }

func spans(l ...api.Span) []api.Span { return l }

func span(from, to int) api.Span { return api.Span{From: from, To: to} }

// event returns the event of a line: its kind, its names, which begin with a letter, and its values, which do not.
func event(number int, line string) api.Event {
	l := strings.Fields(line)
	e := api.Event{Number: number, Kind: l[0]}
	for _, word := range l[1:] {
		if n, err := strconv.Atoi(word); err == nil {
			e.Values = append(e.Values, n)
		} else {
			e.Names = append(e.Names, word)
		}
	}
	return e
}

// further returns events with those of further lines.
func further(l []api.Event, lines ...string) []api.Event {
	out := slices.Grow(slices.Clone(l), len(lines))
	for _, line := range lines {
		out = append(out, event(len(out)+1, line))
	}
	return out
}

// events returns the events of lines.
func events(lines ...string) []api.Event { return further(nil, lines...) }

// The events and the register of the chapter's examples.
var (
	linesJ    = words("runway r 0", "facility f r 0 100", "grant ann 1 50", "grant bob 1 200", "adjust f ann 10", "inspect f bob 20 2", "on f 30")
	eventsJ   = events(linesJ...)
	facilityJ = office.Facility{Name: "f", Runway: "r", Period: 100, Air: true, Inspected: 20, Category: 2, Inspector: "bob", Adjusted: 10, Adjuster: "ann"}
	registerJ = office.Register{Tick: 30, Runways: words("r"), Facilities: []office.Facility{facilityJ}, Technicians: []office.Technician{{Name: "ann", Until: 50}, {Name: "bob", Until: 200}}}
	proofJ    = office.Proof{Facility: "f", Runway: "r", Period: 100, Inspected: 20, Category: 2, Inspector: "bob", Adjusted: 10, Adjuster: "ann"}
)

// The following functions return all results of a call.

func replayed(l []api.Event) []any {
	r, n, e := office.Replay(l)
	return all(r, n, e)
}

func asOf(l []api.Event, tick int) []any {
	r, e := office.AsOf(l, tick)
	return all(r, e)
}

func reasons(l []api.Event, facility string, tick int) []any {
	out, e := office.Reasons(l, facility, tick)
	return all(out, e)
}

func serviceable(l []api.Event, tick int) []any {
	out, e := office.Serviceable(l, tick)
	return all(out, e)
}

func usable(l []api.Event, runway string, tick, visibility int) []any {
	n, e := office.Usable(l, runway, tick, visibility)
	return all(n, e)
}

func due(l []api.Event, tick, within int) []any {
	out, e := office.Due(l, tick, within)
	return all(out, e)
}

func lamped(l []api.Event, facility string, ticks api.Span) []any {
	out, e := office.Lamps(l, facility, ticks)
	return all(out, e)
}

func onAir(l []api.Event, facility string, ticks api.Span) []any {
	out, e := office.OnAir(l, facility, ticks)
	return all(out, e)
}

func rights(l []api.Event, tick int) []any {
	out, e := office.Rights(l, tick)
	return all(out, e)
}

func inspectors(l []api.Event, facility string, tick int) []any {
	out, e := office.Inspectors(l, facility, tick)
	return all(out, e)
}

func stocked(l []api.Event, part string) []any {
	n, e := office.Stock(l, part)
	return all(n, e)
}

func proved(l []api.Event, facility string) []any {
	p, e := office.Provenance(l, facility)
	return all(p, e)
}

func marked(l []api.Event, facility string, key api.Key) []any {
	k, e := office.Mark(l, facility, key)
	return all(k, e)
}

func told(l []api.Event, facility string) []any {
	out, e := office.Story(l, facility)
	return all(out, e)
}

func appended(log string, e api.Event) []any {
	out, err := office.Append(log, e)
	return all(out, err)
}

func recovered(log string) []any {
	l, n, e := office.Recover(log)
	return all(l, n, e)
}

func done(s *office.Session, line string) []any {
	out, e := s.Do(line)
	return all(out, e)
}

// numbers is a row of numbers that look random, and are the same in each run.
type numbers struct{ x uint64 }

func (r *numbers) below(n int) int {
	r.x = r.x*6364136223846793005 + 1442695040888963407
	return int((r.x >> 33) % uint64(n))
}

func (r *numbers) is(part int) bool { return r.below(part) == 0 }

// of returns one of several words.
func (r *numbers) of(l ...string) string { return l[r.below(len(l))] }

// The names of the journals: some are those of things of two sorts.
var (
	runwayNames     = words("r1", "r2", "f1")
	facilityNames   = words("f1", "f2", "r1")
	technicianNames = words("ann", "bob", "f1")
	partNames       = words("fuse", "lamp", "f1")
)

// line returns the line of an event about a tick, often one that is accepted.
func (r *numbers) line(tick int) string {
	runway, facility, technician, part := r.of(runwayNames...), r.of(facilityNames...), r.of(technicianNames...), r.of(partNames...)
	at := tick + r.below(4)
	if r.is(12) {
		at = max(0, tick-1)
	}
	switch kind := r.of("runway", "facility", "grant", "adjust", "inspect", "inspect", "inspect", "inspect", "on", "on", "on", "off", "alarm", "reset", "reset", "stock", "take", "undo"); kind {
	case "runway":
		return fmt.Sprintf("runway %s %d", runway, at)
	case "facility":
		return fmt.Sprintf("facility %s %s %d %d", facility, runway, at, r.below(25))
	case "grant":
		return fmt.Sprintf("grant %s %d %d", technician, at, at-1+r.below(30))
	case "adjust", "reset":
		return fmt.Sprintf("%s %s %s %d", kind, facility, technician, at)
	case "inspect":
		return fmt.Sprintf("inspect %s %s %d %d", facility, technician, at, r.below(5))
	case "stock":
		return fmt.Sprintf("stock %s %d %d", part, at, r.below(6))
	case "take":
		return fmt.Sprintf("take %s %s %d %d", part, facility, at, r.below(4))
	case "undo":
		return kind
	default:
		return fmt.Sprintf("%s %s %d", kind, facility, at)
	}
}

// journal returns accepted events that come of n attempts.
func (r *numbers) journal(n int) []api.Event {
	l := events("runway r1 0", "facility f1 r1 0 12", "grant ann 1 60", "grant bob 1 40")
	for range n {
		e := event(len(l)+1, r.line(registerOf(countingOf(l)).Tick))
		if errorOf(l, e) == api.OK {
			l = append(l, e)
		}
	}
	return l
}

// The following functions are the definitions of the chapter in other words.

// countingOf goes back from the last event: each undo takes away one before it.
func countingOf(l []api.Event) []api.Event {
	var out []api.Event
	undone := 0
	for _, e := range slices.Backward(l) {
		switch {
		case e.Kind == "undo":
			undone++
		case undone > 0:
			undone--
		default:
			out = append(out, e)
		}
	}
	slices.Reverse(out)
	return out
}

// lastOf returns the index of the last event of some kinds that names something first, or -1.
func lastOf(l []api.Event, name string, kinds ...string) int {
	for i, e := range slices.Backward(l) {
		if slices.Contains(kinds, e.Kind) && e.Names[0] == name {
			return i
		}
	}
	return -1
}

// isLast reports whether the last event of some kinds that names something first is of the first of these kinds.
func isLast(l []api.Event, name string, kinds ...string) bool {
	i := lastOf(l, name, kinds...)
	return i >= 0 && l[i].Kind == kinds[0]
}

// namedOf returns what events of a kind name first, each once.
func namedOf(l []api.Event, kind string) []string {
	var out []string
	for _, e := range l {
		if e.Kind == kind && !slices.Contains(out, e.Names[0]) {
			out = append(out, e.Names[0])
		}
	}
	return out
}

// facilityOf looks for the last events of a facility among those that count.
func facilityOf(l []api.Event, name string) office.Facility {
	made := l[lastOf(l, name, "facility")]
	f := office.Facility{Name: name, Runway: made.Names[1], Period: made.Values[1], Inspected: -1, Adjusted: -1}
	f.Air, f.Alarm = isLast(l, name, "on", "off", "alarm"), isLast(l, name, "alarm", "reset")
	if i := lastOf(l, name, "inspect"); i >= 0 {
		f.Inspected, f.Category, f.Inspector = l[i].Values[0], l[i].Values[1], l[i].Names[1]
	}
	if i := lastOf(l, name, "adjust"); i >= 0 {
		f.Adjusted, f.Adjuster = l[i].Values[0], l[i].Names[1]
	}
	f.Touched = lastOf(l, name, "adjust") > lastOf(l, name, "inspect")
	return f
}

// countOf adds up what was added and taken of a part.
func countOf(l []api.Event, part string) int {
	n := 0
	for _, e := range l {
		if e.Kind == "stock" && e.Names[0] == part {
			n += e.Values[1]
		}
		if e.Kind == "take" && e.Names[0] == part {
			n -= e.Values[1]
		}
	}
	return n
}

// registerOf is the register after events that count.
func registerOf(l []api.Event) office.Register {
	var r office.Register
	if len(l) > 0 {
		r.Tick = l[len(l)-1].Values[0]
	}
	r.Runways = namedOf(l, "runway")
	for _, name := range namedOf(l, "facility") {
		r.Facilities = append(r.Facilities, facilityOf(l, name))
	}
	for _, name := range namedOf(l, "grant") {
		r.Technicians = append(r.Technicians, office.Technician{Name: name, Until: l[lastOf(l, name, "grant")].Values[1]})
	}
	for _, name := range namedOf(l, "stock") {
		r.Parts = append(r.Parts, office.Part{Name: name, Count: countOf(l, name)})
	}
	return r
}

// registerAt is the register as of a tick.
func registerAt(l []api.Event, tick int) office.Register {
	return registerOf(slices.DeleteFunc(countingOf(l), func(e api.Event) bool { return e.Values[0] > tick }))
}

// knownOf is whether something of a register has a name.
func knownOf(r office.Register, sort, name string) bool {
	switch sort {
	case "runway":
		return slices.Contains(r.Runways, name)
	case "facility":
		return slices.ContainsFunc(r.Facilities, func(f office.Facility) bool { return f.Name == name })
	case "technician":
		return slices.ContainsFunc(r.Technicians, func(x office.Technician) bool { return x.Name == name })
	}
	return slices.ContainsFunc(r.Parts, func(p office.Part) bool { return p.Name == name })
}

// sortsOf is what the names of an event are names of; a new thing has none.
func sortsOf(kind string) []string {
	switch kind {
	case "runway", "grant", "stock":
		return words("")
	case "facility":
		return words("", "runway")
	case "adjust", "inspect", "reset":
		return words("facility", "technician")
	case "take":
		return words("part", "facility")
	}
	return words("facility")
}

// errorOf is the error with which an event with the next number, for which CheckEvent returns OK, is not accepted after events that are.
func errorOf(l []api.Event, e api.Event) api.Errno {
	counting := countingOf(l)
	if e.Kind == "undo" {
		if len(counting) == 0 {
			return api.ErrEmpty
		}
		if slices.Contains(words("alarm", "inspect", "reset"), counting[len(counting)-1].Kind) {
			return api.ErrRule
		}
		return api.OK
	}
	r := registerOf(counting)
	if e.Values[0] < r.Tick {
		return api.ErrState
	}
	for i, sort := range sortsOf(e.Kind) {
		if sort != "" && !knownOf(r, sort, e.Names[i]) {
			return api.ErrUnknown
		}
	}
	return ownErrorOf(counting, r, e)
}

// ownErrorOf is the error of an event by its kind.
func ownErrorOf(counting []api.Event, r office.Register, e api.Event) api.Errno {
	name, tick, value := e.Names[0], e.Values[0], 0
	if len(e.Values) > 1 {
		value = e.Values[1]
	}
	var f office.Facility
	if sortsOf(e.Kind)[0] == "facility" {
		f = facilityOf(counting, name)
	}
	if len(e.Names) == 2 && sortsOf(e.Kind)[1] == "technician" {
		for _, x := range r.Technicians {
			if x.Name == e.Names[1] && x.Until < tick {
				return api.ErrRight
			}
		}
	}
	for _, x := range []struct {
		kind  string
		wrong bool
		err   api.Errno
	}{
		{"runway", knownOf(r, "runway", name), api.ErrTwice},
		{"runway", len(r.Runways) == 8, api.ErrMany},
		{"facility", knownOf(r, "facility", name), api.ErrTwice},
		{"facility", value == 0 || value > 1000000, api.ErrRange},
		{"facility", len(r.Facilities) == 16, api.ErrMany},
		{"grant", value < tick, api.ErrOld},
		{"grant", !knownOf(r, "technician", name) && len(r.Technicians) == 16, api.ErrMany},
		{"adjust", f.Air, api.ErrOpen},
		{"inspect", value > 3, api.ErrRange},
		{"inspect", f.Adjusted >= 0 && f.Adjuster == e.Names[len(e.Names)-1], api.ErrHeld},
		{"on", f.Air, api.ErrHeld},
		{"on", f.Alarm, api.ErrLocked},
		{"off", !f.Air, api.ErrNone},
		{"alarm", f.Alarm, api.ErrHeld},
		{"reset", !f.Alarm, api.ErrNone},
		{"stock", value == 0, api.ErrRange},
		{"stock", !knownOf(r, "part", name) && len(r.Parts) == 16, api.ErrMany},
		{"stock", countOf(counting, name)+value > 10000, api.ErrLarge},
		{"take", value == 0, api.ErrRange},
		{"take", countOf(counting, name) < value, api.ErrShort},
	} {
		if x.kind == e.Kind && x.wrong {
			return x.err
		}
	}
	return api.OK
}

// reasonsOf is why a facility is not in service.
func reasonsOf(l []api.Event, name string, tick int) []string {
	r := registerAt(l, tick)
	if !knownOf(r, "facility", name) {
		return words("none")
	}
	f := r.Facilities[slices.IndexFunc(r.Facilities, func(f office.Facility) bool { return f.Name == name })]
	var out []string
	if f.Inspected < 0 || f.Category == 0 {
		out = append(out, "inspection")
	}
	if f.Inspected >= 0 && tick > f.Inspected+f.Period {
		out = append(out, "due")
	}
	if f.Touched {
		out = append(out, "adjusted")
	}
	if f.Alarm {
		out = append(out, "alarm")
	}
	if !f.Air {
		out = append(out, "off")
	}
	return out
}

// serviceableOf is the facilities in service.
func serviceableOf(l []api.Event, tick int) []string {
	var out []string
	for _, f := range registerAt(l, tick).Facilities {
		if len(reasonsOf(l, f.Name, tick)) == 0 {
			out = append(out, f.Name)
		}
	}
	return out
}

// usableOf goes down from the greatest category.
func usableOf(l []api.Event, runway string, tick, visibility int) int {
	category := 4
	for _, f := range registerAt(l, tick).Facilities {
		if f.Runway == runway {
			if len(reasonsOf(l, f.Name, tick)) > 0 {
				return 0
			}
			category = min(category, f.Category)
		}
	}
	required := 4
	switch {
	case visibility >= 550:
		required = 1
	case visibility >= 300:
		required = 2
	case visibility >= 100:
		required = 3
	}
	if category == 4 || category < required {
		return 0
	}
	return category
}

// dueOf is the facilities whose inspections are due.
func dueOf(l []api.Event, tick, within int) []string {
	var out []string
	for _, f := range registerAt(l, tick).Facilities {
		if f.Inspected < 0 || tick+within-f.Inspected > f.Period {
			out = append(out, f.Name)
		}
	}
	return out
}

// lampOf is the lamp of a facility.
func lampOf(l []api.Event, name string, tick int) int {
	why := reasonsOf(l, name, tick)
	switch {
	case slices.Equal(why, words("none")):
		return office.Dark
	case slices.Contains(why, "alarm"):
		return office.Red
	case len(why) == 0:
		return office.Green
	case slices.Contains(why, "off"):
		return office.Dark
	}
	return office.Yellow
}

// lampsOf is the lamps at the ticks of a span.
func lampsOf(l []api.Event, name string, ticks api.Span) []int {
	var out []int
	for tick := ticks.From; tick < ticks.To; tick++ {
		out = append(out, lampOf(l, name, tick))
	}
	return out
}

// onAirOf asks tick by tick.
func onAirOf(l []api.Event, name string, ticks api.Span) []api.Span {
	var out []api.Span
	is := false
	for tick := ticks.From; tick < ticks.To; tick++ {
		was := is
		is = slices.ContainsFunc(registerAt(l, tick).Facilities, func(f office.Facility) bool { return f.Name == name && f.Air })
		if is && !was {
			out = append(out, span(tick, tick))
		}
		if is {
			out[len(out)-1].To++
		}
	}
	return out
}

// rightsOf is the technicians whose rights are valid.
func rightsOf(l []api.Event, tick int) []string {
	var out []string
	for _, x := range registerAt(l, tick).Technicians {
		if tick <= x.Until {
			out = append(out, x.Name)
		}
	}
	return out
}

// inspectorsOf is the technicians who may inspect a facility.
func inspectorsOf(l []api.Event, name string, tick int) []string {
	for _, f := range registerAt(l, tick).Facilities {
		if f.Name == name {
			return slices.DeleteFunc(rightsOf(l, tick), func(s string) bool { return s == f.Adjuster })
		}
	}
	return nil
}

// storyOf is the events that concern a facility.
func storyOf(l []api.Event, name string) []api.Event {
	counting := countingOf(l)
	runway := facilityOf(counting, name).Runway
	var out []api.Event
	for _, e := range counting {
		switch e.Kind {
		case "stock", "take":
			continue
		case "runway":
			if e.Names[0] != runway {
				continue
			}
		case "grant":
		default:
			if e.Names[0] != name {
				continue
			}
		}
		e.Number = len(out) + 1
		out = append(out, e)
	}
	return out
}

// proofOf is the provenance of a facility, and whether there is an inspection.
func proofOf(l []api.Event, name string) (office.Proof, bool) {
	f := facilityOf(countingOf(l), name)
	return office.Proof{Facility: f.Name, Runway: f.Runway, Period: f.Period, Inspected: f.Inspected, Category: f.Category, Inspector: f.Inspector, Adjusted: f.Adjusted, Adjuster: f.Adjuster}, f.Inspected >= 0
}

// textOf is the string of a provenance.
func textOf(p office.Proof) string {
	someone := func(s string) string { return s + map[bool]string{true: "-"}[s == ""] }
	return fmt.Sprint(p.Facility, " ", p.Runway, " ", p.Period, " ", p.Inspected, " ", p.Category, " ", someone(p.Inspector), " ", p.Adjusted, " ", someone(p.Adjuster))
}

// recordOf is the record of an event.
func recordOf(e api.Event) string {
	body := fmt.Sprint(e.Number) + " " + e.Kind
	for _, name := range e.Names {
		body += " " + name
	}
	for _, n := range e.Values {
		body += fmt.Sprint(" ", n)
	}
	return sealed(body)
}

// sealed is a string with its checksum as a record.
func sealed(body string) string {
	x := uint64(19)
	for _, b := range []byte(body) {
		x = (257*x + uint64(b)) % 9999889
	}
	return fmt.Sprintf("%s#%07d\n", body, x)
}

// logOf is the log of events.
func logOf(l []api.Event) string {
	var out strings.Builder
	for _, e := range l {
		out.WriteString(recordOf(e))
	}
	return out.String()
}
