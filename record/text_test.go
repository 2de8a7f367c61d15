package record_test

import (
	"slices"
	"strings"
	"testing"

	"glideslope/api"
	"glideslope/record"
)

// The tests of this file are those of P1.4 for Print and Parse.

const tapeText = "recording 100 10\nmark 1 outer\nmark 3 inner\nsample 16\nsample 32\nsample 48\nsample 64\n"

func TestPrint(t *testing.T) {
	long := strings.Repeat("a", 24)
	for i, x := range []struct {
		r record.Recording
		s string
	}{
		{tape(), tapeText},
		{record.Recording{Step: 1}, "recording 0 1\n"},
		{record.Recording{Start: 100000000, Step: 1000}, "recording 100000000 1000\n"},
		{record.Recording{Step: 1, Samples: units(0, -1, -16384, 16384)}, "recording 0 1\nsample 0\nsample -1\nsample -16384\nsample 16384\n"},
		{record.Recording{Step: 1, Samples: units(0), Marks: []record.Marker{{Index: 0, Name: long}}}, "recording 0 1\nmark 0 " + long + "\nsample 0\n"},
	} {
		s, e := record.Print(x.r)
		same(t, "Print", all(i, s, e), all(i, x.s, api.OK))
		r, at, e := record.Parse(x.s)
		same(t, "Parse", all(i, r, at, e), all(i, x.r, 0, api.OK))
	}
}

func TestPrintErrors(t *testing.T) {
	for i, x := range wrong {
		s, e := record.Print(changed(x.change))
		same(t, "Print with errors", all(i, s, e), all(i, "", x.e))
	}
	// 17 bytes, and 9 for each sample that is 0
	long := record.Recording{Start: 1234, Step: 1, Samples: make([]float32, 453)}
	for _, x := range []struct{ unit, bytes int }{{0, 4094}, {10, 4095}, {100, 4096}, {-10, 4096}, {1000, 0}, {-100, 0}} {
		long.Samples[7] = float32(x.unit) / 16
		want := api.OK
		if x.bytes == 0 {
			want = api.ErrLong
		}
		s, e := record.Print(long)
		same(t, "Print by length", all(x.unit, len(s), e), all(x.unit, x.bytes, want))
	}
	s, e := record.Print(record.Recording{Step: 1, Samples: make([]float32, 4096)})
	same(t, "Print of too many samples", all(s, e), all("", api.ErrLong))
}

func TestParseSyntax(t *testing.T) {
	const head = "recording 5 1\n"
	for _, x := range []struct {
		s  string
		at int
	}{
		{"", 0}, {"\n", 0}, {"recording 5 1", 0}, {tapeText[:len(tapeText)-1], 6}, {head + "sample 1", 1}, {head + "s", 1}, {head + "\n", 1}, {head + " \n", 1},
		{"\n" + head, 0}, {"sample 1\n", 0}, {"mark 0 a\n", 0}, {"Recording 5 1\n", 0}, {" recording 5 1\n", 0}, {"recording\n", 0}, {"recordings 5 1\n", 0},
		{"recording 5\n", 0}, {"recording 5 \n", 0}, {"recording 5 1 \n", 0}, {"recording 5 1 1\n", 0}, {"recording  5 1\n", 0}, {"recording 5  1\n", 0}, {"recording 5\t1\n", 0}, {"recording 5 1\r\n", 0},
		{"recording -5 1\n", 0}, {"recording 5 -1\n", 0}, {"recording 05 1\n", 0}, {"recording 5 01\n", 0}, {"recording 00 1\n", 0}, {"recording +5 1\n", 0}, {"recording -0 1\n", 0},
		{"recording 1234567890 1\n", 0}, {"recording 5 1234567890\n", 0}, {"recording 000000001 1\n", 0}, {"recording a 1\n", 0}, {"recording 1_0 1\n", 0}, {"recording 0x1 1\n", 0}, {"recording 1.0 1\n", 0},
		{"recording 5 99999999999999999999999\n", 0}, {"recording \u0661 1\n", 0},
		{head + head, 1}, {tapeText + head, 7}, {head + "tone 1\n", 1},
		{head + "mark 0\n", 1}, {head + "mark 0 \n", 1}, {head + "mark 0 a b\n", 1}, {head + "mark 0 a \n", 1}, {head + "mark  0 a\n", 1}, {head + "mark 0  a\n", 1}, {head + "mark a 0\n", 1}, {head + "mark\n", 1},
		{head + "mark -1 a\n", 1}, {head + "mark 00 a\n", 1}, {head + "mark 1234567890 a\n", 1}, {head + "mark +0 a\n", 1},
		{tapeText + "mark 3 x\n", 7}, {head + "sample 0\nmark 0 a\n", 2}, {head + "mark 0 a\nsample 0\nmark 1 b\nsample 0\n", 3},
		{head + "sample\n", 1}, {head + "sample \n", 1}, {head + "sample 1 \n", 1}, {head + "sample 1 2\n", 1}, {head + "sample  1\n", 1}, {head + "sample -0\n", 1}, {head + "sample -\n", 1}, {head + "sample --1\n", 1},
		{head + "sample +1\n", 1}, {head + "sample 01\n", 1}, {head + "sample -01\n", 1}, {head + "sample 1234567890\n", 1}, {head + "sample -1234567890\n", 1}, {head + "sample 1/2\n", 1}, {head + "sample x\n", 1},
		{head + "sample 1\n\nsample 1\n", 2}, {head + "sample 1\nsample x\nsample y\n", 2},
		{"recording 5 0\nsample x\n", 1}, // a line's error comes before the recording's
	} {
		r, at, e := record.Parse(x.s)
		same(t, "Parse of "+x.s, all(r, at, e), all(record.Recording{}, x.at, api.ErrSyntax))
	}
}

func TestParseErrors(t *testing.T) {
	const head = "recording 5 1\n"
	many := head
	for range 17 {
		many += "mark 0 a\n"
	}
	for _, x := range []struct {
		s  string
		at int
		e  api.Errno
	}{
		{"recording 5 0\n", 1, api.ErrRange}, {"recording 100000001 1\n", 1, api.ErrRange}, {"recording 999999999 999999999\n", 1, api.ErrRange}, {"recording 5 1001\n", 1, api.ErrRange},
		{head + "sample 16385\n", 2, api.ErrRange}, {head + "sample -16385\n", 2, api.ErrRange}, {head + "sample 999999999\n", 2, api.ErrRange}, {head + "sample -999999999\n", 2, api.ErrRange},
		{"recording 100000000 1\nmark 9 9\nsample 0\nsample 99999\n", 4, api.ErrRange},
		{"recording 100000000 1\nmark 9 9\nsample 0\nsample 9999\n", 4, api.ErrLarge},
		{many, 18, api.ErrMany},
		{head + "mark 0 a\n", 2, api.ErrUnknown}, {head + "mark 999999999 a\nsample 0\n", 3, api.ErrUnknown},
		{head + "mark 0 9\nsample 0\n", 3, api.ErrName}, {head + "mark 0 a\tb\nsample 0\n", 3, api.ErrName}, {head + "mark 0 \xff\nsample 0\n", 3, api.ErrName}, {head + "mark 0 " + strings.Repeat("a", 25) + "\nsample 0\n", 3, api.ErrName},
		{head + "mark 0 a\nmark 0 b\nsample 0\n", 4, api.ErrOrder}, {head + "mark 1 a\nmark 0 b\nsample 0\nsample 0\n", 5, api.ErrOrder},
	} {
		r, at, e := record.Parse(x.s)
		same(t, "Parse of "+x.s, all(r, at, e), all(record.Recording{}, x.at, x.e))
	}
}

func TestParseLengths(t *testing.T) {
	r, at, e := record.Parse(strings.Repeat("a", 4097))
	same(t, "Parse of too much", all(r, at, e), all(record.Recording{}, 0, api.ErrLong))
	r, at, e = record.Parse(strings.Repeat("a", 4096))
	same(t, "Parse of one long line", all(r, at, e), all(record.Recording{}, 0, api.ErrSyntax))
	long := record.Recording{Start: 1234, Step: 1, Samples: make([]float32, 453)}
	long.Samples[0] = 6.25
	s := "recording 1234 1\nsample 100\n" + strings.Repeat("sample 0\n", 452)
	r, at, e = record.Parse(s)
	same(t, "Parse of 4096 bytes", all(len(s), r, at, e), all(4096, long, 0, api.OK))
	r, at, e = record.Parse(s + "\n")
	same(t, "Parse of 4097 bytes", all(r, at, e), all(record.Recording{}, 0, api.ErrLong))
}

// What is printed is parsed as it was, and every string that is parsed is the one that is printed.
func TestPrintAndParse(t *testing.T) {
	r := numbers{5}
	for range 300 {
		n := r.below(200)
		x := record.Recording{Start: r.below(1000000), Step: 1 + r.below(1000), Samples: r.samples(n)}
		for i := range n {
			if r.below(20) == 0 && len(x.Marks) < record.MaxMarks {
				x.Marks = append(x.Marks, record.Marker{Index: i, Name: string(rune('a' + r.below(26)))})
			}
		}
		s, e := record.Print(x)
		y, at, f := record.Parse(s)
		same(t, "Print and Parse", all(e, y, at, f), all(api.OK, x, 0, api.OK))
		damaged := []byte(s)
		damaged[r.below(len(s))] = byte("0 -\nxm"[r.below(6)])
		if y, _, e := record.Parse(string(damaged)); e == api.OK {
			again, _ := record.Print(y)
			same(t, "Parse and Print", all(again), all(string(damaged)))
		}
	}
	if !slices.Equal(tape().Samples, []float32{1, 2, 3, 4}) {
		t.Error("R was changed")
	}
}
