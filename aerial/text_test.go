package aerial_test

import (
	"math"
	"strings"
	"testing"

	"glideslope/aerial"
	"glideslope/api"
)

// The tests of this file are those of P3.4: strings.

const exampleText = "aerial -1 0 0 0 -2\naerial 0 10 0 0 0\naerial 1 0 0 0 2\n"

func TestPrint(t *testing.T) {
	minus := math.Copysign(0, -1)
	for i, x := range []struct {
		l []aerial.Aerial
		s string
	}{
		{example(), exampleText},
		{[]aerial.Aerial{{At: -4, Carrier: -100 + 100i, Side: 3 - 7i}}, "aerial -4 -100 100 3 -7\n"},
		{one(complex(minus, minus), complex(0, minus)), "aerial 0 0 0 0 0\n"},
	} {
		s, e := aerial.Print(x.l)
		same(t, "Print", all(i, s, e), all(i, x.s, api.OK))
	}
	for i, x := range badArrays() {
		s, e := aerial.Print(x.l)
		same(t, "Print with errors", all(i, s, e), all(i, "", x.e))
	}
}

func TestParse(t *testing.T) {
	for _, x := range []struct {
		s string
		l []aerial.Aerial
	}{
		{exampleText, example()},
		{"aerial 4 -100 100 3 -7\naerial -4 0 0 0 0\n", []aerial.Aerial{{At: 4, Carrier: -100 + 100i, Side: 3 - 7i}, {At: -4}}},
	} {
		l, at, e := aerial.Parse(x.s)
		same(t, "Parse of "+x.s, all(l, at, e), all(x.l, 0, api.OK))
	}
}

func TestParseErrors(t *testing.T) {
	const line = "aerial 1 2 3 4 5\n" // 17 bytes
	for _, x := range []struct {
		s  string
		at int
		e  api.Errno
	}{
		{"", 0, api.ErrEmpty},
		{"\n", 0, api.ErrSyntax}, {" \n", 0, api.ErrSyntax}, {"aerial 1 2 3 4 5", 0, api.ErrSyntax}, {exampleText[:len(exampleText)-1], 2, api.ErrSyntax}, {exampleText + "\n", 3, api.ErrSyntax}, {exampleText + "a", 3, api.ErrSyntax}, {"\n" + exampleText, 0, api.ErrSyntax}, {line + "\n" + line, 1, api.ErrSyntax},
		{"aerial\n", 0, api.ErrSyntax}, {"aerial 1 2 3 4\n", 0, api.ErrSyntax}, {"aerial 1 2 3 4 \n", 0, api.ErrSyntax}, {"aerial 1 2 3 4 5 \n", 0, api.ErrSyntax}, {"aerial 1 2 3 4 5 6\n", 0, api.ErrSyntax}, {" aerial 1 2 3 4 5\n", 0, api.ErrSyntax}, {"aerial  1 2 3 4 5\n", 0, api.ErrSyntax}, {"aerial 1 2 3  4 5\n", 0, api.ErrSyntax},
		{"aerial 1 2\t3 4 5\n", 0, api.ErrSyntax}, {"aerial 1 2 3 4 5\r\n", 0, api.ErrSyntax}, {"Aerial 1 2 3 4 5\n", 0, api.ErrSyntax}, {"aerials 1 2 3 4 5\n", 0, api.ErrSyntax}, {"1 2 3 4 5\n", 0, api.ErrSyntax}, {"1 2 3 4 5 6\n", 0, api.ErrSyntax}, {"signal 1 2 3 4 5\n", 0, api.ErrSyntax},
		{"aerial 01 2 3 4 5\n", 0, api.ErrSyntax}, {"aerial -0 2 3 4 5\n", 0, api.ErrSyntax}, {"aerial 1 2 00 4 5\n", 0, api.ErrSyntax}, {"aerial 1 2 3 4 -0\n", 0, api.ErrSyntax}, {"aerial +1 2 3 4 5\n", 0, api.ErrSyntax}, {"aerial 1 2 3 4 -05\n", 0, api.ErrSyntax}, {"aerial 1 - 3 4 5\n", 0, api.ErrSyntax}, {"aerial 1 --2 3 4 5\n", 0, api.ErrSyntax},
		{"aerial x 2 3 4 5\n", 0, api.ErrSyntax}, {"aerial 1 2i 3 4 5\n", 0, api.ErrSyntax}, {"aerial 1 2.0 3 4 5\n", 0, api.ErrSyntax}, {"aerial 1 2 0x3 4 5\n", 0, api.ErrSyntax}, {"aerial 1 2 3 4_0 5\n", 0, api.ErrSyntax}, {"aerial 1 2 3 4 1e1\n", 0, api.ErrSyntax}, {"aerial \u0661 2 3 4 5\n", 0, api.ErrSyntax}, {"aerial 1 2 3 4 \xff\n", 0, api.ErrSyntax},
		{"aerial 1000000000 2 3 4 5\n", 0, api.ErrSyntax}, {"aerial 1 -1000000000 3 4 5\n", 0, api.ErrSyntax}, {"aerial 1 2 3 4 99999999999999999999\n", 0, api.ErrSyntax},
		{"aerial 5 2 3 4 5\n", 1, api.ErrRange}, {"aerial -5 2 3 4 5\n", 1, api.ErrRange}, {"aerial 999999999 2 3 4 5\n", 1, api.ErrRange}, {"aerial 1 101 3 4 5\n", 1, api.ErrRange}, {"aerial 1 2 -101 4 5\n", 1, api.ErrRange}, {"aerial 1 2 3 999999999 5\n", 1, api.ErrRange}, {"aerial 1 2 3 4 -999999999\n", 1, api.ErrRange},
		{line + line, 2, api.ErrTwice}, {line + line + "aerial 5 0 0 0 0\n", 3, api.ErrTwice}, {"aerial 5 2 3 4 5\naerial 1 x\n", 1, api.ErrSyntax}, // a line's error comes before an array's
		{strings.Repeat(line, 9), 9, api.ErrMany}, {strings.Repeat(line, 240), 240, api.ErrMany},
		{strings.Repeat(line, 240) + strings.Repeat("a", 16), 240, api.ErrSyntax}, {strings.Repeat(line, 240) + strings.Repeat("a", 17), 0, api.ErrLong}, {strings.Repeat("a", 4096), 0, api.ErrSyntax}, {strings.Repeat("a", 4097), 0, api.ErrLong}, {string(make([]byte, 5000)), 0, api.ErrLong},
	} {
		l, at, e := aerial.Parse(x.s)
		same(t, "Parse of "+x.s, all(l, at, e), all([]aerial.Aerial{}, x.at, x.e))
	}
}
