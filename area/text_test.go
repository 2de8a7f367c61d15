package area_test

import (
	"strconv"
	"strings"
	"testing"

	"glideslope/api"
	"glideslope/area"
)

// The tests of this file are those of P5.4.

func printed(l []area.Area) []any {
	s, e := area.Print(l)
	return all(s, e)
}

func parsed(s string) []any {
	l, at, e := area.Parse(s)
	return all(l, at, e)
}

const (
	critLine = "area crit 1 1 0 0 6 0 0 6\n"
	sensLine = "area sens 2 2 0 0 10 0 10 10 0 10\n"
)

// wide is an area with all that is far and long.
var wide = area.Area{Name: "abcdefghijklmnopqrstuvwx", Size: 3, Category: 3, Polygon: polygon(-1000000, -1000000, 1000000, -999999, 1000000, 1000000, -5, 999999)}

const wideLine = "area abcdefghijklmnopqrstuvwx 3 3 -1000000 -1000000 1000000 -999999 1000000 1000000 -5 999999\n"

// manyLines returns the lines of many areas.
func manyLines(n int) string {
	var s strings.Builder
	for i := range n {
		s.WriteString("area " + nameOf(i) + " " + strconv.Itoa(i%4) + " " + strconv.Itoa(1+i%3) + " 0 0 6 0 0 6\n")
	}
	return s.String()
}

func TestPrint(t *testing.T) {
	for _, x := range []struct {
		l []area.Area
		s string
	}{
		{nil, ""}, {[]area.Area{crit}, critLine}, {areas, critLine + sensLine}, {[]area.Area{sens, wide, crit}, sensLine + wideLine + critLine}, {manyAreas(16), manyLines(16)},
		{[]area.Area{{Name: "Z_9", Size: 0, Category: 1, Polygon: polygon(-1, 0, 0, -1, 1, 0, 0, 1)}}, "area Z_9 0 1 -1 0 0 -1 1 0 0 1\n"},
		{[]area.Area{{Name: "z", Category: 1, Polygon: polygon(1, 0, 2, 0, 3, 1, 3, 2, 2, 3, 1, 3, 0, 2, 0, 1)}}, "area z 0 1 1 0 2 0 3 1 3 2 2 3 1 3 0 2 0 1\n"},
	} {
		same(t, "Print", printed(x.l), all(x.s, api.OK))
		same(t, "Parse", all(x.s, parsed(x.s)), all(x.s, all(x.l, 0, api.OK)))
	}
	checkErrors(t, "Print", func(a []any) []any { return printed(a[0].([]area.Area)) }, all(""), argumentOf(areas, badAreaLists()))
}

func TestParseSyntax(t *testing.T) {
	for _, s := range []string{
		"\n", " \n", "area\n", "area \n", "area crit\n", "area crit 1\n", "area crit 1 \n", "area crit 1 1 \n", "area crit 1 1  \n", "area 1 1 0 0 6 0 0 6\n", "area  1 1 0 0 6 0 0 6\n", "area 1 1\n",
		"area crit 1 1 0\n", "area crit 1 1 0 0 6 0 0\n", "area crit 1 1 0 0 6 0 0 6 7\n", "area crit 1 1 0 0 6 0 0 6 \n", "area crit 1 1 0 0 6 0 0 6  \n", "area crit 1 1 0 0 6 0 0 \n", // an odd number, or no integers
		"area crit 1 1 0 0 6 0 0 6", "area crit 1 1 0 0 6 0 0 6\r\n", "area crit 1 1 0 0 6 0 0 6\t\n", " area crit 1 1 0 0 6 0 0 6\n", "area  crit 1 1 0 0 6 0 0 6\n", "area crit  1 1 0 0 6 0 0 6\n", "area crit 1 1 0 0  6 0 0 6\n", "area\tcrit 1 1 0 0 6 0 0 6\n",
		"Area crit 1 1 0 0 6 0 0 6\n", "areas crit 1 1 0 0 6 0 0 6\n", "crit 1 1 0 0 6 0 0 6\n", "plate crit 1 1 0 0 6 0 0 6\n", "area crit x 1 0 0 6 0 0 6\n", "area crit 1 x 0 0 6 0 0 6\n", "area crit 1 1 x 0 6 0 0 6\n", "area crit 1 1 0 0 6 0 0 x\n", "area a b 1 1 0 0 6 0 0 6\n",
		"area crit 01 1 0 0 6 0 0 6\n", "area crit 1 01 0 0 6 0 0 6\n", "area crit 1 1 00 0 6 0 0 6\n", "area crit 1 1 0 0 06 0 0 6\n", "area crit 1 1 -0 0 6 0 0 6\n", "area crit 1 1 0 -0 6 0 0 6\n", "area crit -0 1 0 0 6 0 0 6\n", "area crit 1 1 0 0 -06 0 0 6\n", "area crit 1 1 0 0 +6 0 0 6\n", "area crit 1 1 0 0 - 0 0 6\n", "area crit 1 1 0 0 --6 0 0 6\n",
		"area crit 1 1 0 0 6.0 0 0 6\n", "area crit 1 1 0 0 0x6 0 0 6\n", "area crit 1 1 0 0 6_0 0 0 6\n", "area crit 1 1 0 0 1e1 0 0 6\n", "area crit 1 1 0 0 \u0666 0 0 6\n", "area crit 1 1 0 0 6 0 0 \xff\n", "area crit 1 1 0 0 6 0 0 6\x00\n",
		"area crit 1000000000 1 0 0 6 0 0 6\n", "area crit 1 1 0 0 -1000000000 0 0 6\n", "area crit 1 1 0 0 6 0 0 99999999999999999999\n", "area crit 1 1 000000000 0 6 0 0 6\n",
	} {
		same(t, "Parse", all(s, parsed(s)), all(s, all([]area.Area{}, 0, api.ErrSyntax)))
		first := manyLines(2) + s
		same(t, "Parse after others", all(first, parsed(first)), all(first, all([]area.Area{}, 2, api.ErrSyntax)))
	}
	for _, x := range []struct {
		s  string
		at int
	}{
		{critLine + "\n" + sensLine, 1}, {"\n" + critLine, 0}, {critLine + sensLine + "x", 2}, {critLine + "area sens 2 2 0 0 10 0 10 10 0 10", 1}, {critLine + "x\nx\n", 1},
		{critLine + critLine + "x\n", 2}, {"area 9 1 1\n" + critLine + "x\n", 2}, {strings.Repeat(critLine, 17) + "x\n", 17}, // a line's error comes before that of areas
	} {
		same(t, "Parse", all(x.s, parsed(x.s)), all(x.s, all([]area.Area{}, x.at, api.ErrSyntax)))
	}
}

func TestParseErrors(t *testing.T) {
	for _, x := range []struct {
		s  string
		at int
		e  api.Errno
	}{
		{"area crit 1 1\n", 1, api.ErrShort}, {"area crit 1 1 0 0\n", 1, api.ErrShort}, {"area crit 1 1 0 0 6 0\n", 1, api.ErrShort}, {"area crit 1 1" + strings.Repeat(" 0", 18) + "\n", 1, api.ErrMany}, {"area crit 1 1" + strings.Repeat(" 0", 2040) + "\n", 1, api.ErrMany}, {"area crit 1 1" + strings.Repeat(" 0", 2041) + "\n", 0, api.ErrSyntax}, {"area crit 1 1" + strings.Repeat(" 0", 2042) + "\n", 0, api.ErrLong},
		{"area crit 1 1 0 0 0 6 6 0\n", 1, api.ErrForm}, {"area crit 1 1 0 0 6 0 0 1000001\n", 1, api.ErrRange}, {"area crit 1 1 0 -1000001 6 0 0 6\n", 1, api.ErrRange}, {"area crit 1 1 999999999 0 6 0 0 6\n", 1, api.ErrRange}, {"area crit 1 1 0 0 6 -999999999 0 6\n", 1, api.ErrRange},
		{"area crit 4 1 0 0 6 0 0 6\n", 1, api.ErrRange}, {"area crit -1 1 0 0 6 0 0 6\n", 1, api.ErrRange}, {"area crit 1 0 0 0 6 0 0 6\n", 1, api.ErrRange}, {"area crit 1 4 0 0 6 0 0 6\n", 1, api.ErrRange}, {"area crit 999999999 1\n", 1, api.ErrRange},
		{"area 9 1 1 0 0 6 0 0 6\n", 1, api.ErrName}, {"area 1 1 0 0 6 0 0 6 0\n", 1, api.ErrName}, {"area a-b 1 1 0 0 6 0 0 6\n", 1, api.ErrName}, {"area - 1 1 0 0 6 0 0 6\n", 1, api.ErrName}, {"area \xff 1 1\n", 1, api.ErrName}, {"area abcdefghijklmnopqrstuvwxy 1 1 0 0 6 0 0 6\n", 1, api.ErrName},
		{critLine + critLine, 2, api.ErrTwice}, {critLine + sensLine + "area crit 9 9\n", 3, api.ErrTwice}, {critLine + "area sens 1 1\n" + critLine, 3, api.ErrShort},
		{manyLines(17), 17, api.ErrMany}, {strings.Repeat(critLine, 17), 17, api.ErrMany}, {manyLines(150), 150, api.ErrMany},
		{strings.Repeat("a", 4096), 0, api.ErrSyntax}, {strings.Repeat("a", 4097), 0, api.ErrLong}, {strings.Repeat("\n", 4096), 0, api.ErrSyntax}, {strings.Repeat("\n", 4097), 0, api.ErrLong}, {string(make([]byte, 5000)), 0, api.ErrLong}, {critLine + strings.Repeat("a", 4097-len(critLine)), 0, api.ErrLong}, {critLine + strings.Repeat("a", 4096-len(critLine)), 1, api.ErrSyntax},
	} {
		same(t, "Parse", all(x.s, parsed(x.s)), all(x.s, all([]area.Area{}, x.at, x.e)))
	}
}

func TestParsedAsPrinted(t *testing.T) {
	r := numbers{31}
	again := 0
	for range 3000 {
		l := r.areas(r.far(), 16)
		s, e := area.Print(l)
		same(t, "Print and Parse", all(e, parsed(s)), all(api.OK, all(l, 0, api.OK)))
		if s == "" {
			continue
		}
		damaged := []byte(s)
		damaged[r.below(len(s))] = byte("0 -\nxa1"[r.below(7)])
		if l, _, e := area.Parse(string(damaged)); e == api.OK {
			same(t, "Parse and Print", printed(l), all(string(damaged), api.OK))
			again++
		}
	}
	same(t, "are there strings that are right by chance", all(again > 100), all(true))
}
