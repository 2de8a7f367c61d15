package tone_test

import (
	"slices"
	"strings"
	"testing"

	"glideslope/api"
	"glideslope/tone"
)

// The tests of this file are those of P2.4.

func TestPrint(t *testing.T) {
	far := tone.Signal{Carrier: gauss(-10000, 10000), Low: gauss(1, -2), High: gauss(0, -9)}
	for i, x := range []struct {
		l []tone.Signal
		s string
	}{
		{[]tone.Signal{example()}, "signal 10 0 3 0 1 0\n"},
		{[]tone.Signal{far, example()}, "signal -10000 10000 1 -2 0 -9\nsignal 10 0 3 0 1 0\n"},
	} {
		s, e := tone.Print(x.l)
		same(t, "Print", all(i, s, e), all(i, x.s, api.OK))
		l, at, e := tone.Parse(x.s)
		same(t, "Parse", all(i, l, at, e), all(i, x.l, 0, api.OK))
	}
	for i, x := range lists() {
		s, e := tone.Print(x.l)
		want := ""
		if x.e == api.OK {
			want = strings.Repeat("signal 10 0 3 0 1 0\n", 256) // 5120 bytes
		}
		same(t, "Print of a list", all(i, s, e), all(i, want, x.e))
	}
}

func TestParseSyntax(t *testing.T) {
	const line = "signal 10 0 3 0 1 0\n"
	for _, x := range []struct {
		s  string
		at int
	}{
		{"\n", 0}, {" \n", 0}, {"signal 10 0 3 0 1 0", 0}, {line + "signal 10 0 3 0 1 0", 1}, {line + "s", 1}, {line + "\n", 1}, {"\n" + line, 0}, {line + line + "\n" + line, 2},
		{"signal\n", 0}, {"signal 10 0 3 0 1\n", 0}, {"signal 10 0 3 0 1 \n", 0}, {"signal 10 0 3 0 1 0 \n", 0}, {"signal 10 0 3 0 1 0 0\n", 0}, {"signal  10 0 3 0 1 0\n", 0}, {" signal 10 0 3 0 1 0\n", 0},
		{"signal 10 0 3  0 1 0\n", 0}, {"signal 10 0 3\t0 1 0\n", 0}, {"signal 10 0 3 0 1 0\r\n", 0}, {"Signal 10 0 3 0 1 0\n", 0}, {"signals 10 0 3 0 1 0\n", 0}, {"10 0 3 0 1 0\n", 0}, {"10 0 3 0 1 0 0\n", 0}, {"mark 10 0 3 0 1 0\n", 0},
		{"signal 010 0 3 0 1 0\n", 0}, {"signal 10 00 3 0 1 0\n", 0}, {"signal 10 0 -0 0 1 0\n", 0}, {"signal 10 0 3 -00 1 0\n", 0}, {"signal 10 0 3 0 -01 0\n", 0}, {"signal 10 0 3 0 1 +0\n", 0},
		{"signal x 0 3 0 1 0\n", 0}, {"signal 10 - 3 0 1 0\n", 0}, {"signal 10 0 --3 0 1 0\n", 0}, {"signal 10 0 3 1.0 1 0\n", 0}, {"signal 10 0 3 0 1/2 0\n", 0}, {"signal 10 0 3 0 1 0x0\n", 0}, {"signal 10 0 3 0 1 1_0\n", 0},
		{"signal 1000000000 0 3 0 1 0\n", 0}, {"signal 10 -1000000000 3 0 1 0\n", 0}, {"signal 10 0 3 0 1 99999999999999999999\n", 0}, {"signal \u0661 0 3 0 1 0\n", 0}, {"signal 10 0 3 0 1 \xff\n", 0},
		{"signal 0 0 0 0 0 0\nsignal x\nsignal\n", 1}, // a line's error comes before a signal's
		{strings.Repeat("a", 4096), 0},
	} {
		l, at, e := tone.Parse(x.s)
		same(t, "Parse of "+x.s, all(l, at, e), all([]tone.Signal(nil), x.at, api.ErrSyntax))
	}
}

func TestParseErrors(t *testing.T) {
	const line = "signal 10 0 3 0 1 0\n" // 20 bytes
	for _, x := range []struct {
		s  string
		at int
		e  api.Errno
	}{
		{"", 0, api.ErrEmpty},
		{"signal 0 0 3 0 1 0\n", 1, api.ErrZero}, {line + "signal 0 0 3 0 1 0\n" + line, 3, api.ErrZero}, {"signal 0 0 3 0 1 0\nsignal 10001 0 0 0 0 0\n", 2, api.ErrZero},
		{"signal 10001 0 3 0 1 0\n", 1, api.ErrRange}, {"signal 10 -10001 3 0 1 0\n", 1, api.ErrRange}, {"signal 10 0 999999999 0 1 0\n", 1, api.ErrRange}, {"signal 10 0 3 -999999999 1 0\n", 1, api.ErrRange},
		{"signal 10 0 3 0 10001 0\n", 1, api.ErrRange}, {"signal 0 0 3 0 1 10001\n", 1, api.ErrRange},
		{strings.Repeat(line, 204) + strings.Repeat("a", 17), 0, api.ErrLong}, {strings.Repeat("\n", 4097), 0, api.ErrLong},
		{strings.Repeat(line, 204) + strings.Repeat("a", 16), 204, api.ErrSyntax},
	} {
		l, at, e := tone.Parse(x.s)
		same(t, "Parse of "+x.s, all(l, at, e), all([]tone.Signal(nil), x.at, x.e))
	}
	// 4096 bytes: 201 lines of 20 bytes, and four of 19
	s := strings.Repeat(line, 201) + strings.Repeat("signal 1 0 0 0 0 0\n", 4)
	l, at, e := tone.Parse(s)
	same(t, "Parse of 4096 bytes", all(len(s), l, at, e), all(4096, append(slices.Repeat([]tone.Signal{example()}, 201), slices.Repeat([]tone.Signal{plain(1, 0, 0)}, 4)...), 0, api.OK))
}
