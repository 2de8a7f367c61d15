package office_test

import (
	"fmt"
	"regexp"
	"slices"
	"strings"
	"testing"

	"glideslope/api"
	"glideslope/office"
)

// The tests of this file are those of P10.3.

// logJ is the log of J.
var logJ = logOf(eventsJ)

// patterns has what the bodies of the events of each kind look like.
var patterns = func() []*regexp.Regexp {
	var out []*regexp.Regexp
	for _, s := range shapes {
		out = append(out, regexp.MustCompile(`^([1-9][0-9]{0,2}|1000) `+s.kind+strings.Repeat(` [A-Za-z][A-Za-z0-9_]{0,23}`, s.names)+strings.Repeat(` (0|[1-9][0-9]{0,8})`, s.values)+`$`))
	}
	return out
}()

var ending = regexp.MustCompile(`(?s)^(.*)#([0-9]{7})$`)

// recordError is the error of a line without its line feed as the record with a number.
func recordError(line string, number int) api.Errno {
	parts := ending.FindStringSubmatch(line)
	switch {
	case parts == nil:
		return api.ErrSyntax
	case sealed(parts[1]) != line+"\n":
		return api.ErrCheck
	case !slices.ContainsFunc(patterns, func(p *regexp.Regexp) bool { return p.MatchString(parts[1]) }):
		return api.ErrSyntax
	case !strings.HasPrefix(line, fmt.Sprint(number, " ")):
		return api.ErrOrder
	}
	return api.OK
}

// recoveredOf takes away what is behind the last record.
func recoveredOf(log string) []any {
	var l []api.Event
	length := 0
	for {
		line, _, ended := strings.Cut(log[length:], "\n")
		if !ended {
			return all(l, length, map[bool]api.Errno{true: api.ErrTorn}[line != ""])
		}
		if e := recordError(line, len(l)+1); e != api.OK {
			return all(l, length, e)
		}
		body, _, _ := strings.Cut(line, "#")
		_, body, _ = strings.Cut(body, " ")
		l = further(l, body)
		length += len(line) + 1
	}
}

func TestRecords(t *testing.T) {
	same(t, "records", all(strings.Split(logJ, "\n")[0], sealed("")), all("1 runway r 0#1767590", "#0000019\n"))
	log := ""
	for i, e := range eventsJ {
		out, err := office.Append(log, e)
		same(t, "Append", all(i, out, err), all(i, log+recordOf(e), api.OK))
		log = out
	}
	same(t, "the log of J", all(log, recovered(log), recovered("")), all(logJ, all(eventsJ, len(logJ), api.OK), all([]api.Event{}, 0, api.OK)))
	for _, s := range shapes {
		e := shaped(8, s.kind, s.names, s.values)
		same(t, "Append of each kind", all(s, appended(logJ, e)), all(s, all(logJ+recordOf(e), api.OK)))
		same(t, "Recover of each kind", all(s, recovered(logJ+recordOf(e))), all(s, all(append(slices.Clone(eventsJ), e), len(logJ)+len(recordOf(e)), api.OK)))
	}
	// events need not be accepted
	l := events("undo", "on x 999999999", "off x 0", "inspect "+strings.Repeat("a", 24)+" B_9 0 999999999")
	same(t, "a log of others", recovered(logOf(l)), all(l, len(logOf(l)), api.OK))
}

// The checksum's leading zeros are there.
func TestChecksums(t *testing.T) {
	zeros := map[int]int{}
	for tick := range 30000 {
		e := event(1, fmt.Sprintf("on f %d", tick))
		out, err := office.Append("", e)
		want := recordOf(e)
		if out != want || err != api.OK {
			t.Fatalf("Append of %v: got %q, %d, want %q", e, out, err, want)
		}
		sum := out[len(out)-8 : len(out)-1]
		zeros[7-len(strings.TrimLeft(sum, "0"))]++
		if l, n, e := office.Recover(out); len(l) != 1 || n != len(out) || e != api.OK {
			t.Fatalf("Recover of %q: got %v, %d, %d", out, l, n, e)
		}
	}
	same(t, "are there leading zeros", all(zeros[0] > 0, zeros[1] > 0, zeros[2] > 0, zeros[3] > 0), all(true, true, true, true))
}

func TestAppendErrors(t *testing.T) {
	bads := append(badEvents(8), bad[api.Event]{event(7, "off f 40"), api.ErrOrder}, bad[api.Event]{event(9, "off f 40"), api.ErrOrder}, bad[api.Event]{event(1, "undo"), api.ErrOrder}, bad[api.Event]{event(1000, "undo"), api.ErrOrder})
	var logs []bad[string]
	for _, x := range badRests() {
		logs = append(logs, bad[string]{logJ + x.x, x.e})
	}
	logs = append(logs, bad[string]{strings.Repeat("x", 1000001), api.ErrLong}, bad[string]{logJ + strings.Repeat("\n", 1000001-len(logJ)), api.ErrLong}, bad[string]{logJ[1:], api.ErrCheck})
	call := func(a []any) []any { return appended(a[0].(string), a[1].(api.Event)) }
	checkErrors(t, "Append", call, all(""), argumentOf(logJ, logs), argumentOf(event(8, "off f 40"), bads))
	full := logOf(manyEvents(1000))
	same(t, "Append to many", all(appended(full, event(1000, "off f 31")), appended(full, event(1001, "off f 31")), appended(full[:len(full)-1], event(1000, "off f 31"))), all(all("", api.ErrOrder), all("", api.ErrRange), all("", api.ErrTorn)))
	out, e := office.Append(logOf(manyEvents(999)), manyEvents(1000)[999])
	same(t, "Append of the last one", all(out, e), all(full, api.OK))
}

// badRests returns what may not be behind the log of J, with the error.
func badRests() []bad[string] {
	var out []bad[string]
	add := func(e api.Errno, l ...string) {
		for _, s := range l {
			out = append(out, bad[string]{s, e})
		}
	}
	good := recordOf(event(8, "off f 40"))
	add(api.ErrTorn, "8", "x", "#", " ", "\x00", "8 off f 40#", good[:len(good)-1], strings.Repeat("#", 100), strings.Repeat("x", 1000000-len(logJ)))
	add(api.ErrSyntax, "\n", "#\n", "8 off f 40\n", "1234567\n", "#123456\n", "8 off f 40#123456\n", "8 off f 40 1234567\n", "8 off f 40#12345678\n", "8 off f 40#123456x\n", "8 off f 40#x234567\n", "8 off f 40#-123456\n", "8 off f 40#123456 \n", "8 off f 40#1234567 \n", "8 off f 40# 1234567\n", "8 off f 40#12345\u00e9\n", "8 off f 40#12345\xff\xfe\n", "8 off f 40#\uff11\uff12a\n", "8 off f 40#1234567\r\n", "\n"+good, "x\n"+good, good[:5]+"\n"+good[5:])
	add(api.ErrCheck, "#0000000\n", "#0000018\n", "8 off f 40#0000000\n", "8 off f 40#9999999\n", "8 off f 4"+good[10:], "x#1234567\n", "\x00#1234567\n", strings.Replace(good, "f", "g", 1), strings.Replace(good, "8", "9", 1), strings.Replace(good, "off", "Off", 1), "##0000019\n")
	var bodies []string
	for _, s := range words("", "8", "8 ", " ", "off", "off f 40", "8 off", "8 off f", "8 off 40", "8 off f ", "8 off f 40 ", " 8 off f 40", "8  off f 40", "8 off  f 40", "8 off f  40", "8 off f 40 1", "8 off f g 40", "8 on f", "8 offf f 40", "8 Off f 40", "8 lamp f 40", "8 undo 0", "8 undo ", "8 undo f", "8 off 9 40", "8 off f-g 40", "8 off f# 40", "8 off f\x00 40", "8 off f\r 40", "8 off f 40#", "8 off "+strings.Repeat("a", 25)+" 40", "8 off f 1000000000", "8 off f 9999999999", "8 off f 040", "8 off f 00", "8 off f -1", "8 off f -0", "8 off f +40", "8 off f 4x", "8 off f 4.0", "8 off f 0x4", "8 off f \uff14", "8 off f x", "08 off f 40", "-8 off f 40", "+8 off f 40", "0 off f 40", "1001 off f 40", "1000000008 off f 40", "8.0 off f 40", "x off f 40", "8 facility g r 40", "8 facility g r 40 5 6", "8 facility g 40 5", "8 take p 40 5", "8 stock p 40", "8 off f\t40", "8\toff f 40", "8 off f 40\x00") {
		bodies = append(bodies, sealed(s), sealed(s)+good)
	}
	add(api.ErrSyntax, bodies...)
	for _, n := range []int{1, 7, 9, 10, 80, 1000} {
		add(api.ErrOrder, recordOf(event(n, "off f 40")), recordOf(event(n, "off f 40"))+good)
	}
	add(api.ErrOrder, logJ)
	return out
}

func TestRecoverErrors(t *testing.T) {
	for i, x := range badRests() {
		same(t, "Recover", all(i, x.x, recovered(logJ+x.x)), all(i, x.x, all(eventsJ, len(logJ), x.e)))
		if x.e != api.ErrOrder {
			same(t, "Recover of the rest alone", all(i, x.x, recovered(x.x)), all(i, x.x, all([]api.Event{}, 0, x.e)))
		}
	}
	same(t, "Recover of long ones", all(recovered(strings.Repeat("x", 1000000)), recovered(strings.Repeat("x", 1000001)), recovered(strings.Repeat("\n", 1000000)), recovered(strings.Repeat("\n", 1000001)), recovered(logJ+strings.Repeat("x", 1000000))), all(all([]api.Event{}, 0, api.ErrTorn), all([]api.Event{}, 0, api.ErrLong), all([]api.Event{}, 0, api.ErrSyntax), all([]api.Event{}, 0, api.ErrLong), all([]api.Event{}, 0, api.ErrLong)))
	l := manyEvents(1000)
	full := logOf(l)
	for _, x := range []struct {
		rest string
		e    api.Errno
	}{{"", api.OK}, {"x", api.ErrTorn}, {recordOf(event(1001, "off f 31")), api.ErrSyntax}, {recordOf(event(1000, "off f 31")), api.ErrOrder}} {
		got, n, e := office.Recover(full + x.rest)
		same(t, "Recover of many", all(x.rest, n, e), all(x.rest, len(full), x.e))
		if shown(got) != shown(l) {
			t.Errorf("Recover of many: the events before %q are others", x.rest)
		}
	}
}

// A log that is cut off anywhere, or in which a byte is another one, is recovered up to its last whole record.
func TestRecoverDamaged(t *testing.T) {
	for i := range logJ {
		same(t, "Recover of a log that is cut off", all(i, recovered(logJ[:i])), all(i, recoveredOf(logJ[:i])))
		same(t, "Recover of a log without its beginning", all(i, recovered(logJ[i:])), all(i, recoveredOf(logJ[i:])))
		same(t, "Recover of a log without a byte", all(i, recovered(logJ[:i]+logJ[i+1:])), all(i, recoveredOf(logJ[:i]+logJ[i+1:])))
		for _, b := range []byte("\n #01x9a\x00\xff-") {
			s := logJ[:i] + string([]byte{b}) + logJ[i+1:]
			same(t, "Recover of a log with another byte", all(i, b, recovered(s)), all(i, b, recoveredOf(s)))
		}
	}
	r := numbers{9}
	for i := range 300 {
		s := []byte(logOf(r.journal(40)))
		for range r.below(3) {
			s[r.below(len(s))] = []byte{'\n', '#', ' ', '0', 'a', byte(r.below(256))}[r.below(6)]
		}
		same(t, "Recover", all(i, recovered(string(s))), all(i, recoveredOf(string(s))))
	}
}
