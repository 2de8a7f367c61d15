package ground_test

import (
	"strings"
	"testing"

	"glideslope/api"
	"glideslope/ground"
)

// The tests of this file are those of P4.4.

const exampleText = "plate 4 -2 4 2 5 100 200 0\n"

// corner returns a plate with the ends of its ranges, and its line.
func corner() (ground.Plate, string) {
	p := ground.Plate{From: point(-1000, 1000), To: point(1000, -1000), Height: 200, Factor: interval(0, 1000), Turn: 3}
	return p, "plate -1000 1000 1000 -1000 200 0 1000 3\n"
}

func TestPrint(t *testing.T) {
	p, line := corner()
	for i, x := range []struct {
		l []ground.Plate
		s string
	}{{nil, ""}, {[]ground.Plate{plateP}, exampleText}, {[]ground.Plate{p, plateP, p}, line + exampleText + line}, {full().Plates, strings.Repeat(exampleText, 6)}} {
		s, e := ground.Print(x.l)
		same(t, "Print", all(i, s, e), all(i, x.s, api.OK))
		l, at, e := ground.Parse(x.s)
		same(t, "Parse", all(i, l, at, e), all(i, x.l, 0, api.OK))
	}
	for i, x := range badPlateLists() {
		s, e := ground.Print(x.x)
		same(t, "Print with errors", all(i, s, e), all(i, "", x.e))
	}
}

func TestParseErrors(t *testing.T) {
	const line = "plate 1 2 3 4 5 6 7 0\n" // 22 bytes
	for _, x := range []struct {
		s  string
		at int
		e  api.Errno
	}{
		{"\n", 0, api.ErrSyntax}, {" \n", 0, api.ErrSyntax}, {line[:21], 0, api.ErrSyntax}, {line + line[:21], 1, api.ErrSyntax}, {line + "\n", 1, api.ErrSyntax}, {line + "p", 1, api.ErrSyntax}, {"\n" + line, 0, api.ErrSyntax}, {line + "\n" + line, 1, api.ErrSyntax},
		{"plate\n", 0, api.ErrSyntax}, {"plate 1 2 3 4 5 6 7\n", 0, api.ErrSyntax}, {"plate 1 2 3 4 5 6 7 \n", 0, api.ErrSyntax}, {"plate 1 2 3 4 5 6 7 0 \n", 0, api.ErrSyntax}, {"plate 1 2 3 4 5 6 7 0 0\n", 0, api.ErrSyntax}, {" plate 1 2 3 4 5 6 7 0\n", 0, api.ErrSyntax}, {"plate  1 2 3 4 5 6 7 0\n", 0, api.ErrSyntax}, {"plate 1 2 3 4  5 6 7 0\n", 0, api.ErrSyntax},
		{"plate 1 2\t3 4 5 6 7 0\n", 0, api.ErrSyntax}, {"plate 1 2 3 4 5 6 7 0\r\n", 0, api.ErrSyntax}, {"Plate 1 2 3 4 5 6 7 0\n", 0, api.ErrSyntax}, {"plates 1 2 3 4 5 6 7 0\n", 0, api.ErrSyntax}, {"1 2 3 4 5 6 7 0\n", 0, api.ErrSyntax}, {"0 1 2 3 4 5 6 7 0\n", 0, api.ErrSyntax}, {"aerial 1 2 3 4 5 6 7 0\n", 0, api.ErrSyntax},
		{"plate 01 2 3 4 5 6 7 0\n", 0, api.ErrSyntax}, {"plate -0 2 3 4 5 6 7 0\n", 0, api.ErrSyntax}, {"plate 1 2 3 4 5 6 7 -0\n", 0, api.ErrSyntax}, {"plate 1 2 3 4 5 6 7 00\n", 0, api.ErrSyntax}, {"plate +1 2 3 4 5 6 7 0\n", 0, api.ErrSyntax}, {"plate 1 -02 3 4 5 6 7 0\n", 0, api.ErrSyntax}, {"plate 1 2 - 4 5 6 7 0\n", 0, api.ErrSyntax}, {"plate 1 2 --3 4 5 6 7 0\n", 0, api.ErrSyntax},
		{"plate x 2 3 4 5 6 7 0\n", 0, api.ErrSyntax}, {"plate 1 2.0 3 4 5 6 7 0\n", 0, api.ErrSyntax}, {"plate 1 2 0x3 4 5 6 7 0\n", 0, api.ErrSyntax}, {"plate 1 2 3 4_0 5 6 7 0\n", 0, api.ErrSyntax}, {"plate 1 2 3 4 1e1 6 7 0\n", 0, api.ErrSyntax}, {"plate \u0661 2 3 4 5 6 7 0\n", 0, api.ErrSyntax}, {"plate 1 2 3 4 5 6 7 \xff\n", 0, api.ErrSyntax},
		{"plate 1000000000 2 3 4 5 6 7 0\n", 0, api.ErrSyntax}, {"plate 1 2 3 4 5 6 7 -1000000000\n", 0, api.ErrSyntax}, {"plate 1 2 3 4 5 6 99999999999999999999 0\n", 0, api.ErrSyntax},
		{"plate 999999999 2 3 4 5 6 7 0\n", 1, api.ErrRange}, {"plate 1 1001 3 4 5 6 7 0\n", 1, api.ErrRange}, {"plate 1 2 -1001 4 5 6 7 0\n", 1, api.ErrRange}, {"plate 1 2 3 -999999999 5 6 7 0\n", 1, api.ErrRange}, {"plate 1 2 3 4 0 6 7 0\n", 1, api.ErrRange}, {"plate 1 2 3 4 201 6 7 0\n", 1, api.ErrRange}, {"plate 1 2 3 4 5 -1 7 0\n", 1, api.ErrRange}, {"plate 1 2 3 4 5 6 1001 0\n", 1, api.ErrRange}, {"plate 1 2 3 4 5 6 7 4\n", 1, api.ErrRange}, {"plate 1 2 3 4 5 6 7 -1\n", 1, api.ErrRange},
		{"plate 1 2 1 2 5 6 7 0\n", 1, api.ErrForm}, {"plate 1 2 3 4 5 7 6 0\n", 1, api.ErrOrder}, {line + line + "plate 1 2 1 2 5 6 7 0\n" + line, 4, api.ErrForm}, {"plate 1 2 1 2 5 6 7 0\nplate 1 2 3 4 5 7 6 0\n", 2, api.ErrForm},
		{"plate 1 2 1 2 5 6 7 0\nplate 1 x\n", 1, api.ErrSyntax}, // a line's error comes before that of plates
		{strings.Repeat(line, 7), 7, api.ErrMany}, {strings.Repeat("plate 1 2 1 2 5 6 7 0\n", 7), 7, api.ErrMany}, {strings.Repeat(line, 186), 186, api.ErrMany},
		{strings.Repeat(line, 186) + "plat", 186, api.ErrSyntax}, {strings.Repeat(line, 186) + "plate", 0, api.ErrLong}, {strings.Repeat("a", 4096), 0, api.ErrSyntax}, {strings.Repeat("a", 4097), 0, api.ErrLong}, {string(make([]byte, 5000)), 0, api.ErrLong},
	} {
		l, at, e := ground.Parse(x.s)
		same(t, "Parse of "+x.s, all(l, at, e), all([]ground.Plate{}, x.at, x.e))
	}
}

func TestParsedAsPrinted(t *testing.T) {
	r := numbers{31}
	for range 1000 {
		l := r.scene(r.far(), 6).Plates
		s, e := ground.Print(l)
		back, at, f := ground.Parse(s)
		same(t, "Print and Parse", all(e, back, at, f), all(api.OK, l, 0, api.OK))
		if s == "" {
			continue
		}
		damaged := []byte(s)
		damaged[r.below(len(s))] = byte("0 -\nxp"[r.below(6)])
		if l, _, e := ground.Parse(string(damaged)); e == api.OK {
			again, _ := ground.Print(l)
			same(t, "Parse and Print", all(again), all(string(damaged)))
		}
	}
}
