package pulse_test

import (
	"strconv"
	"strings"
	"testing"

	"glideslope/api"
	"glideslope/pulse"
)

// The tests of this file are those of P7.4.

func printed(s pulse.Station) []any {
	text, e := pulse.Print(s)
	return all(text, e)
}

func parsed(text string) []any {
	s, at, e := pulse.Parse(text)
	return all(s, at, e)
}

const lineD = "station 12 50 2 60 20 3 1000 400\n"

func TestPrint(t *testing.T) {
	for _, x := range []struct {
		s    pulse.Station
		text string
	}{
		{stationD, lineD}, {least, "station 1 0 0 0 0 1 1 1\n"}, {most, "station 1000 10000 1000 10000 10000 1000 1000000 1000000\n"},
		{pulse.Station{Spacing: 1, Delay: 2, Off: 3, Dead: 4, Echo: 5, Most: 6, Window: 7, Gap: 8}, "station 1 2 3 4 5 6 7 8\n"},
	} {
		same(t, "Print", printed(x.s), all(x.text, api.OK))
		same(t, "Parse", all(x.text, parsed(x.text)), all(x.text, all(x.s, 0, api.OK)))
	}
	checkErrors(t, "Print", func(a []any) []any { return printed(a[0].(pulse.Station)) }, all(""), argumentOf(stationD, badStations()))
}

func TestParseSyntax(t *testing.T) {
	for _, s := range []string{
		"", "\n", " \n", "station\n", "station \n", "station 1\n", "station 1 2 3 4 5 6 7\n", "station 1 2 3 4 5 6 7 \n", "station 1 2 3 4 5 6 7 8 \n", "station 1 2 3 4 5 6 7 8 9\n", "station 1 2 3 4 5 6 7 8 x\n", "1 2 3 4 5 6 7 8\n", "station 0 0 0 0 0 0 0\n",
		" station 1 2 3 4 5 6 7 8\n", "station  1 2 3 4 5 6 7 8\n", "station 1 2 3 4  5 6 7 8\n", "station 1 2 3 4 5 6 7  8\n", "station\t1 2 3 4 5 6 7 8\n", "station 1 2 3 4 5 6 7\t8\n", "station 1 2 3 4 5 6 7 8\t\n", "station 1 2 3 4 5 6 7 8\r\n", "station 1 2 3 4 5 6 7 8\x00\n",
		"station 1 2 3 4 5 6 7 8", "station 1 2 3 4 5 6 7 8\n\n", "\nstation 1 2 3 4 5 6 7 8\n", "station 1 2 3 4 5 6 7 8\n ", "station 1 2 3 4 5 6 7 8\nx", "station 1 2 3 4\n5 6 7 8\n", "station 1 2 3 4 5 6 7\n8\n", lineD + lineD, lineD + "x\n", "x\n" + lineD, lineD + "\n" + lineD, lineD + strings.TrimSpace(lineD),
		"Station 1 2 3 4 5 6 7 8\n", "stations 1 2 3 4 5 6 7 8\n", "statio 1 2 3 4 5 6 7 8\n", "plant 1 2 3 4 5 6 7 8\n", "1 station 2 3 4 5 6 7 8\n", "station station 1 2 3 4 5 6 7 8\n",
		"station 0 0 0 0 0 0 0 0", "station 0 0 0 0 0 0 0 x\n", "station x 0 0 0 0 0 0 0\n", // before the ranges
	} {
		same(t, "Parse", all(s, parsed(s)), all(s, all(pulse.Station{}, 0, api.ErrSyntax)))
	}
	for i := range 8 {
		for _, word := range []string{"-1", "-0", "+1", "01", "00", "000000001", "1000000000", "99999999999999999999", "1.", "1.0", "0x1", "1_0", "1e1", "a", "1a", "a1", "-", "\u0661", "\xff", "1\xff", ":", "/", ""} {
			words := strings.Split("1 2 3 4 5 6 7 8", " ")
			words[i] = word
			s := "station " + strings.Join(words, " ") + "\n"
			same(t, "Parse", all(s, parsed(s)), all(s, all(pulse.Station{}, 0, api.ErrSyntax)))
		}
	}
}

func TestParseErrors(t *testing.T) {
	filled := func(s string, n int) string { return s + strings.Repeat("a", n-len(s)) }
	for _, x := range []struct {
		s  string
		at int
		e  api.Errno
	}{
		{"station 0 0 0 0 0 0 0 0\n", 1, api.ErrRange}, {"station 999999999 999999999 999999999 999999999 999999999 999999999 999999999 999999999\n", 1, api.ErrRange},
		{strings.Repeat("a", 4096), 0, api.ErrSyntax}, {strings.Repeat("a", 4097), 0, api.ErrLong}, {strings.Repeat("\n", 4096), 0, api.ErrSyntax}, {strings.Repeat("\n", 4097), 0, api.ErrLong}, {string(make([]byte, 5000)), 0, api.ErrLong},
		{filled(lineD, 4096), 0, api.ErrSyntax}, {filled(lineD, 4097), 0, api.ErrLong}, {strings.Repeat(lineD, 200), 0, api.ErrLong}, {filled("station 0", 4097), 0, api.ErrLong},
	} {
		same(t, "Parse", all(x.s, parsed(x.s)), all(x.s, all(pulse.Station{}, x.at, x.e)))
	}
	for i, r := range stationRanges {
		for _, n := range ticks(0, 1, 1000, 1001, 10000, 10001, 1000000, 1000001, 999999999) {
			words := strings.Split("1 2 3 4 5 6 7 8", " ")
			words[i] = strconv.Itoa(n)
			s := "station " + strings.Join(words, " ") + "\n"
			want := all(0, api.OK)
			if n < r[0] || n > r[1] {
				want = all(1, api.ErrRange)
			}
			_, at, e := pulse.Parse(s)
			same(t, "Parse", all(s, at, e), append(all(s), want...))
		}
	}
}

func TestParsedAsPrinted(t *testing.T) {
	r := numbers{15}
	again := 0
	for range 5000 {
		s := r.any()
		text, e := pulse.Print(s)
		same(t, "Print and Parse", all(e, parsed(text)), all(api.OK, all(s, 0, api.OK)))
		damaged := []byte(text)
		damaged[r.below(len(text))] = byte("0 -\nxa1"[r.below(7)])
		if s, _, e := pulse.Parse(string(damaged)); e == api.OK {
			same(t, "Parse and Print", printed(s), all(string(damaged), api.OK))
			again++
		}
	}
	same(t, "are there strings that are right by chance", all(again > 300), all(true))
}
