package release_test

import (
	"fmt"
	"strings"
	"testing"

	"glideslope/api"
	"glideslope/release"
)

// The tests of this file are those of P9.4.

func printed(l []release.Notice) []any {
	text, e := release.Print(l)
	return all(text, e)
}

func parsed(text string) []any {
	l, at, e := release.Parse(text)
	return all(l, at, e)
}

func TestPrint(t *testing.T) {
	for _, x := range []struct {
		l    []release.Notice
		text string
	}{
		{noticesN, "notice 7 r9 100 160 400 1\nnotice 8 r9 150 300 500 0\n"}, {nil, ""}, {noticesN[1:], "notice 8 r9 150 300 500 0\n"},
		{[]release.Notice{notice(1, "A_b", 0, 0, 1, 3), notice(999999999, "abcdefghijklmnopqrstuvwx", 99999999, 99999999, 100000000, 2)}, "notice 1 A_b 0 0 1 3\nnotice 999999999 abcdefghijklmnopqrstuvwx 99999999 99999999 100000000 2\n"},
	} {
		same(t, "Print", printed(x.l), all(x.text, api.OK))
		same(t, "Parse", all(x.text, parsed(x.text)), all(x.text, all(x.l, 0, api.OK)))
	}
	checkErrors(t, "Print", func(a []any) []any { return printed(a[0].([]release.Notice)) }, all(""), argumentOf(noticesN, badNoticeLists()))
}

func TestParseSyntax(t *testing.T) {
	const good = "notice 7 r9 100 160 400 1\n"
	none := []release.Notice{}
	for _, line := range []string{
		"\n", " \n", "notice\n", "notice \n", "notice 7\n", "notice 7 r9\n", "notice 7 r9 100 160 400\n", "notice 7 r9 100 160 400 \n", "notice 7 r9 100 160 400 1 \n", "notice 7 r9 100 160 400 1 1\n", "notice 7 100 160 400 1\n", "7 r9 100 160 400 1\n", "notice r9 100 160 400 1\n", "notice r9 7 100 160 400 1\n",
		" notice 7 r9 100 160 400 1\n", "notice  7 r9 100 160 400 1\n", "notice 7  r9 100 160 400 1\n", "notice 7  100 160 400 1\n", "notice 7 r9  100 160 400 1\n", "notice 7 r9 100 160 400  1\n", "notice\t7 r9 100 160 400 1\n", "notice 7 r9\t100 160 400 1\n", "notice 7 r9 100 160 400 1\t\n", "notice 7 r9 100 160 400 1\r\n", "notice 7 r9 100 160 400 1\x00\n",
		"notice 7 r9 100 160 400 1", "notice 8 r9 150 300 500 0", "notice", "x", " ", "Notice 7 r9 100 160 400 1\n", "notices 7 r9 100 160 400 1\n", "notic 7 r9 100 160 400 1\n", "mark 7 r9 100 160 400 1\n", "7 notice r9 100 160 400 1\n", "notice notice 7 r9 100 160 400 1\n", "notice 7 r9 100\n160 400 1\n", "notice 7 r9 100 160 400 1 notice 8 r9 150 300 500 0\n",
	} {
		for at := range 4 {
			s := strings.Repeat(good, at) + line
			same(t, "Parse", all(s, parsed(s)), all(s, all(none, at, api.ErrSyntax)))
		}
		if strings.HasSuffix(line, "\n") {
			s := line + good + "x"
			same(t, "Parse", all(s, parsed(s)), all(s, all(none, 0, api.ErrSyntax)))
		}
	}
	for _, x := range badFields() {
		s := "notice " + strings.Join(x.x[:], " ") + "\n"
		if x.e == api.ErrSyntax && strings.Count(s, "\n") == 1 {
			same(t, "Parse", all(s, parsed(s)), all(s, all(none, 0, api.ErrSyntax)))
		}
	}
}

func TestParseErrors(t *testing.T) {
	filled := func(s string, n int) string { return s + strings.Repeat("a", n-len(s)) }
	lines := func(n int) string {
		var b strings.Builder
		for i := range n {
			fmt.Fprintf(&b, "notice %d r9 0 0 1 0\n", i+1)
		}
		return b.String()
	}
	for _, x := range []struct {
		s  string
		at int
		e  api.Errno
	}{
		{lines(33), 33, api.ErrMany}, {lines(100), 100, api.ErrMany}, {"notice 0 r9 0 0 1 0\n", 1, api.ErrRange}, {"notice 1 9 0 0 1 0\n", 1, api.ErrName}, {"notice 1 r-9 0 0 1 0\n", 1, api.ErrName}, {"notice 1 r\t9 0 0 1 0\n", 1, api.ErrName}, {"notice 1 \u00e9 0 0 1 0\n", 1, api.ErrName}, {"notice 1 abcdefghijklmnopqrstuvwxy 0 0 1 0\n", 1, api.ErrName},
		{"notice 1 r9 100000001 0 1 0\n", 1, api.ErrRange}, {"notice 1 r9 0 999999999 1 0\n", 1, api.ErrRange}, {"notice 1 r9 0 0 100000001 0\n", 1, api.ErrRange}, {"notice 1 r9 0 0 1 4\n", 1, api.ErrRange}, {"notice 1 r9 1 0 1 0\n", 1, api.ErrOrder}, {"notice 1 r9 0 1 1 0\n", 1, api.ErrOrder}, {"notice 1 r9 2 1 1 4\n", 1, api.ErrRange},
		{lines(1) + lines(1), 2, api.ErrOrder}, {"notice 2 r9 0 0 1 0\nnotice 1 r9 0 0 1 0\nnotice 3 r9 0 0 1 0\n", 3, api.ErrOrder}, {lines(3) + "notice 0 r9 0 0 1 0\n", 4, api.ErrRange},
		// a line that is wrong comes before the error of the notices
		{lines(33) + "x", 33, api.ErrSyntax}, {"notice 0 9 5 4 3 9\nnotice 1 r9 0 0 1 00\n", 1, api.ErrSyntax}, {lines(1) + lines(1) + "\n", 2, api.ErrSyntax},
		{strings.Repeat("a", 4096), 0, api.ErrSyntax}, {strings.Repeat("a", 4097), 0, api.ErrLong}, {strings.Repeat("\n", 4096), 0, api.ErrSyntax}, {strings.Repeat("\n", 4097), 0, api.ErrLong}, {string(make([]byte, 5000)), 0, api.ErrLong}, {filled(lines(1), 4096), 1, api.ErrSyntax}, {filled(lines(1), 4097), 0, api.ErrLong}, {lines(1000), 0, api.ErrLong},
	} {
		same(t, "Parse", all(x.s, parsed(x.s)), all(x.s, all([]release.Notice{}, x.at, x.e)))
	}
	l, at, e := release.Parse(lines(32))
	same(t, "as many notices as there may be", all(len(l), at, e), all(32, 0, api.OK))
}

func TestParsedAsPrinted(t *testing.T) {
	r := numbers{11}
	again := 0
	for range 3000 {
		l := r.notices(32, []int{20, 30000000}[r.below(2)])
		text, e := release.Print(l)
		same(t, "Print and Parse", all(e, parsed(text)), all(api.OK, all(l, 0, api.OK)))
		if text == "" {
			continue
		}
		damaged := []byte(text)
		damaged[r.below(len(text))] = byte("0 \nnr1239"[r.below(9)])
		if l, _, e := release.Parse(string(damaged)); e == api.OK {
			same(t, "Parse and Print", printed(l), all(string(damaged), api.OK))
			again++
		}
	}
	same(t, "are there strings that are right by chance", all(again > 300), all(true))
}
