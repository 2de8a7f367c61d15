package flight_test

import (
	"strconv"
	"strings"
	"testing"

	"glideslope/api"
	"glideslope/flight"
)

// The tests of this file are those of P8.4 for strings.

func printed(l []flight.Mark) []any {
	text, e := flight.Print(l)
	return all(text, e)
}

func parsed(text string) []any {
	l, at, e := flight.Parse(text)
	return all(l, at, e)
}

func TestPrint(t *testing.T) {
	for _, x := range []struct {
		l    []flight.Mark
		text string
	}{
		{runR, "mark -40 -210 0\nmark -20 -90 0\nmark 0 5 0\nmark 20 110 0\nmark 40 190 0\n"}, {flagged(runR, 1, 2)[:3], "mark -40 -210 0\nmark -20 -90 1\nmark 0 5 1\n"}, {run(0, 0), "mark 0 0 0\n"}, {flagged(run(-100000, -1000000, 100000, 1000000), 0, 1), "mark -100000 -1000000 1\nmark 100000 1000000 1\n"},
	} {
		same(t, "Print", printed(x.l), all(x.text, api.OK))
		same(t, "Parse", all(x.text, parsed(x.text)), all(x.text, all(x.l, 0, api.OK)))
	}
	checkErrors(t, "Print", func(a []any) []any { return printed(a[0].([]flight.Mark)) }, all(""), argumentOf(runR, badRuns()))
}

func TestParseSyntax(t *testing.T) {
	const good = "mark 1 2 0\n"
	for _, line := range []string{
		"\n", " \n", "mark\n", "mark \n", "mark 1\n", "mark 1 2\n", "mark 1 2 \n", "mark 1 2 0 \n", "mark 1 2 0 0\n", "mark 1 2 3 0\n", "1 2 0\n", "mark 0\n", " mark 1 2 0\n", "mark  1 2 0\n", "mark 1  2 0\n", "mark 1 2  0\n",
		"mark\t1 2 0\n", "mark 1 2\t0\n", "mark 1 2 0\t\n", "mark 1 2 0\r\n", "mark 1 2 0\x00\n", "mark 1 2 0", "mark 1 2 1", "mark", "x", " ", "Mark 1 2 0\n", "marks 1 2 0\n", "mar 1 2 0\n", "zone 1 2 0\n", "1 mark 2 0\n", "mark mark 1 2 0\n", "mark 1 2\n0\n",
		"mark 1 2 2\n", "mark 1 2 -0\n", "mark 1 2 -1\n", "mark 1 2 00\n", "mark 1 2 01\n", "mark 1 2 +1\n", "mark 1 2 10\n", "mark 1 2 x\n", "mark 1 2 true\n", "mark 1 2 \u0661\n", "mark 1 2 0.\n", "mark 1 2 \xff\n",
	} {
		for at := range 4 {
			s := strings.Repeat(good, at) + line
			same(t, "Parse", all(s, parsed(s)), all(s, all([]flight.Mark{}, at, api.ErrSyntax)))
		}
		if strings.HasSuffix(line, "\n") {
			s := line + good + "x"
			same(t, "Parse", all(s, parsed(s)), all(s, all([]flight.Mark{}, 0, api.ErrSyntax)))
		}
	}
	for i := range 2 {
		for _, word := range []string{"-0", "+1", "01", "00", "-01", "--1", "-", "000000001", "1000000000", "-1000000000", "99999999999999999999", "1.", "1.0", "0x1", "1_0", "1e1", "a", "1a", "a1", "\u0661", "\xff", "1\xff", ":", "/", ""} {
			words := strings.Split("mark 1 2 0", " ")
			words[1+i] = word
			s := strings.Join(words, " ") + "\n"
			same(t, "Parse", all(s, parsed(s)), all(s, all([]flight.Mark{}, 0, api.ErrSyntax)))
		}
	}
}

func TestParseErrors(t *testing.T) {
	filled := func(s string, n int) string { return s + strings.Repeat("a", n-len(s)) }
	lines := func(n int) string {
		var b strings.Builder
		for i := range n {
			b.WriteString("mark " + strconv.Itoa(i) + " 7 1\n")
		}
		return b.String()
	}
	for _, x := range []struct {
		s  string
		at int
		e  api.Errno
	}{
		{"", 0, api.ErrEmpty}, {lines(65), 65, api.ErrMany}, {lines(100), 100, api.ErrMany}, {"mark 100001 0 0\n", 1, api.ErrRange}, {"mark 0 0 0\nmark 1 -1000001 0\n", 2, api.ErrRange}, {"mark 999999999 0 0\n", 1, api.ErrRange}, {"mark 0 -999999999 0\n", 1, api.ErrRange}, {"mark 1 0 0\nmark 1 0 0\n", 2, api.ErrOrder}, {"mark 1 0 0\nmark 0 0 1\nmark 5 0 0\n", 3, api.ErrOrder},
		// a line that is wrong comes before the error of the run
		{lines(65) + "x", 65, api.ErrSyntax}, {"mark 1 0 0\nmark 1 0 0\nmark 1 0 2\n", 2, api.ErrSyntax},
		{strings.Repeat("a", 4096), 0, api.ErrSyntax}, {strings.Repeat("a", 4097), 0, api.ErrLong}, {strings.Repeat("\n", 4096), 0, api.ErrSyntax}, {strings.Repeat("\n", 4097), 0, api.ErrLong}, {string(make([]byte, 5000)), 0, api.ErrLong}, {filled("mark 0 0 0\n", 4096), 1, api.ErrSyntax}, {filled("mark 0 0 0\n", 4097), 0, api.ErrLong}, {lines(1000), 0, api.ErrLong},
	} {
		same(t, "Parse", all(x.s, parsed(x.s)), all(x.s, all([]flight.Mark{}, x.at, x.e)))
	}
	_, at, e := flight.Parse(lines(64))
	same(t, "as many marks as there may be", all(at, e), all(0, api.OK))
}

func TestParsedAsPrinted(t *testing.T) {
	r := numbers{25}
	again := 0
	for range 3000 {
		l := r.run(64, 1000000)
		text, e := flight.Print(l)
		same(t, "Print and Parse", all(e, parsed(text)), all(api.OK, all(l, 0, api.OK)))
		damaged := []byte(text)
		damaged[r.below(len(text))] = byte("0 -\nmark1"[r.below(9)])
		if l, _, e := flight.Parse(string(damaged)); e == api.OK {
			same(t, "Parse and Print", printed(l), all(string(damaged), api.OK))
			again++
		}
	}
	same(t, "are there strings that are right by chance", all(again > 300), all(true))
}
