package monitor_test

import (
	"strings"
	"testing"

	"glideslope/api"
	"glideslope/monitor"
)

// The tests of this file are those of P6.4.

func printed(p monitor.Plant) []any {
	s, e := monitor.Print(p)
	return all(s, e)
}

func parsed(s string) []any {
	p, at, e := monitor.Parse(s)
	return all(p, at, e)
}

const (
	headLine = "plant 2 2\n"
	aLine    = "sensor a near -10 10 2\n"
	bLine    = "sensor b integral -10 10 3\n"
	cLine    = "sensor c far -20 20 1\n"
)

func TestPrint(t *testing.T) {
	var many strings.Builder
	many.WriteString("plant 8 0\n")
	for i := range 8 {
		many.WriteString("sensor n" + string(rune('0'+i)) + " " + kinds[i%3] + " " + []string{"0 0 1", "-1 1 2", "-2 2 3", "-3 3 4", "-4 4 5", "-5 5 6", "-6 6 7", "-7 7 8"}[i] + "\n")
	}
	for _, x := range []struct {
		p monitor.Plant
		s string
	}{
		{plantP, headLine + aLine + bLine + cLine}, {monitor.Plant{Sensors: manySensors(8), Need: 8}, many.String()},
		{monitor.Plant{Sensors: []monitor.Sensor{{Name: "abcdefghijklmnopqrstuvwx", Kind: "integral", Limits: interval(-10000, -10000), Delay: 60}, {Name: "A_9", Kind: "far", Limits: interval(9, 10000), Delay: 1}}, Need: 1, Silence: 60}, "plant 1 60\nsensor abcdefghijklmnopqrstuvwx integral -10000 -10000 60\nsensor A_9 far 9 10000 1\n"},
	} {
		same(t, "Print", printed(x.p), all(x.s, api.OK))
		same(t, "Parse", all(x.s, parsed(x.s)), all(x.s, all(x.p, 0, api.OK)))
	}
	checkErrors(t, "Print", func(a []any) []any { return printed(a[0].(monitor.Plant)) }, all(""), argumentOf(plantP, badPlants()))
}

func TestParseHead(t *testing.T) {
	for _, s := range []string{
		"", "\n", " \n", "plant\n", "plant \n", "plant 2\n", "plant 2 \n", "plant  2\n", "plant 2 2 \n", "plant 2 2  \n", "plant 2 2 2\n", " plant 2 2\n", "plant  2 2\n", "plant 2  2\n", "plant\t2 2\n", "plant 2 2\r\n", "plant 2 2\t\n", "plant 2 2", "plant 2 2\x00\n",
		"Plant 2 2\n", "plants 2 2\n", "plan 2 2\n", "2 2\n", "sensor 2 2\n", "sensor a near -10 10 2\n", "plant a 2\n", "plant 2 a\n", "plant 2 2a\n",
		"plant -2 2\n", "plant 2 -2\n", "plant -0 2\n", "plant 2 -0\n", "plant +2 2\n", "plant 02 2\n", "plant 2 02\n", "plant 00 2\n", "plant 2 00\n", "plant 2. 2\n", "plant 0x2 2\n", "plant 1_0 2\n", "plant 1e1 2\n", "plant \u0662 2\n", "plant 2 \xff\n", "plant 1000000000 2\n", "plant 2 1000000000\n", "plant 2 99999999999999999999\n", "plant 000000002 2\n",
	} {
		same(t, "Parse", all(s, parsed(s)), all(s, all(monitor.Plant{}, 0, api.ErrSyntax)))
		if strings.HasSuffix(s, "\n") {
			same(t, "Parse before others", all(s, parsed(s+aLine+bLine+"x\n")), all(s, all(monitor.Plant{}, 0, api.ErrSyntax)))
		}
	}
}

func TestParseSyntax(t *testing.T) {
	for _, s := range []string{
		"\n", " \n", "sensor\n", "sensor \n", "sensor s\n", "sensor s near\n", "sensor s near -1\n", "sensor s near -1 1\n", "sensor s near -1 1 \n", "sensor s near -1 1 2 \n", "sensor s near -1 1 2  \n", "sensor s near -1 1 2 3\n", "sensor near -1 1 2\n", "sensor  near -1 1 2\n", "sensor s  -1 1 2\n", "sensor  -1 1 2\n", "sensor   -1 1 2\n", "sensor s a near -1 1 2\n",
		" sensor s near -1 1 2\n", "sensor  s near -1 1 2\n", "sensor s  near -1 1 2\n", "sensor s near  -1 1 2\n", "sensor s near -1  1 2\n", "sensor s near -1 1  2\n", "sensor\ts near -1 1 2\n", "sensor s near -1 1 2\r\n", "sensor s near -1 1 2\t\n", "sensor s near -1 1 2", "sensor s near -1 1 2\x00\n",
		"Sensor s near -1 1 2\n", "sensors s near -1 1 2\n", "senso s near -1 1 2\n", "plant s near -1 1 2\n", "plant 2 2\n", "s near -1 1 2\n", "sensor s near x 1 2\n", "sensor s near -1 x 2\n", "sensor s near -1 1 x\n",
		"sensor s near -0 1 2\n", "sensor s near -1 -0 2\n", "sensor s near -1 1 -0\n", "sensor s near -1 1 -2\n", "sensor s near -01 1 2\n", "sensor s near 00 1 2\n", "sensor s near -1 01 2\n", "sensor s near -1 1 02\n", "sensor s near -1 1 00\n", "sensor s near +1 1 2\n", "sensor s near - 1 2\n", "sensor s near --1 1 2\n", "sensor s near -1 1 2.0\n", "sensor s near -1 0x1 2\n", "sensor s near -1 1_0 2\n", "sensor s near -1 1e1 2\n", "sensor s near -1 \u0661 2\n", "sensor s near -1 1 \xff\n",
		"sensor s near -1000000000 1 2\n", "sensor s near -1 1000000000 2\n", "sensor s near -1 1 1000000000\n", "sensor s near -1 1 99999999999999999999\n", "sensor s near -1 000000001 2\n",
	} {
		one, two := headLine+s, headLine+aLine+bLine+s
		same(t, "Parse", all(one, parsed(one)), all(one, all(monitor.Plant{}, 1, api.ErrSyntax)))
		same(t, "Parse", all(two, parsed(two)), all(two, all(monitor.Plant{}, 3, api.ErrSyntax)))
	}
	for _, x := range []struct {
		s  string
		at int
	}{
		{headLine + "\n" + aLine, 1}, {"\n" + headLine + aLine, 0}, {aLine + headLine, 0}, {headLine + aLine + headLine, 2}, {headLine + aLine + "x", 2}, {headLine + aLine + "x\nx\n", 2},
		{headLine + aLine + aLine + "x\n", 3}, {"plant 9 99\n" + aLine + "x\n", 2}, {headLine + "sensor 9 nor 9 1 0\nx", 2}, {headLine + strings.Repeat(aLine, 9) + "x\n", 10}, // a line's error comes before that of the plant
	} {
		same(t, "Parse", all(x.s, parsed(x.s)), all(x.s, all(monitor.Plant{}, x.at, api.ErrSyntax)))
	}
}

func TestParseErrors(t *testing.T) {
	filled := func(s string, n int) string { return s + strings.Repeat("a", n-len(s)) }
	for _, x := range []struct {
		s  string
		at int
		e  api.Errno
	}{
		{headLine, 1, api.ErrEmpty}, {"plant 0 0\n", 1, api.ErrEmpty}, {"plant 999999999 999999999\n", 1, api.ErrEmpty},
		{headLine + aLine, 2, api.ErrRange}, {"plant 0 2\n" + aLine, 2, api.ErrRange}, {"plant 1 61\n" + aLine, 2, api.ErrRange}, {"plant 1 999999999\n" + aLine, 2, api.ErrRange}, {"plant 4 2\n" + aLine + bLine + cLine, 4, api.ErrRange},
		{headLine + aLine + "sensor 9 near -1 1 2\n", 3, api.ErrName}, {headLine + aLine + "sensor a-b nor -1 1 2\n", 3, api.ErrName}, {headLine + aLine + "sensor \xff near -1 1 2\n", 3, api.ErrName}, {headLine + aLine + "sensor abcdefghijklmnopqrstuvwxy near -1 1 2\n", 3, api.ErrName}, {headLine + aLine + "sensor b\tb near -1 1 2\n", 3, api.ErrName},
		{headLine + aLine + aLine, 3, api.ErrTwice}, {headLine + aLine + bLine + "sensor a nor 1 0 0\n", 4, api.ErrTwice}, {headLine + aLine + "sensor b nor 1 0 0\n", 3, api.ErrKind}, {headLine + aLine + "sensor b Near -1 1 2\n", 3, api.ErrKind}, {headLine + aLine + "sensor b 0 -1 1 2\n", 3, api.ErrKind},
		{headLine + aLine + "sensor b near 1 0 0\n", 3, api.ErrOrder}, {headLine + aLine + "sensor b near -10001 0 1\n", 3, api.ErrRange}, {headLine + aLine + "sensor b near 0 10001 1\n", 3, api.ErrRange}, {headLine + aLine + "sensor b near -999999999 999999999 1\n", 3, api.ErrRange}, {headLine + aLine + "sensor b near -1 1 0\n", 3, api.ErrRange}, {headLine + aLine + "sensor b near -1 1 61\n", 3, api.ErrRange}, {headLine + aLine + "sensor b near -1 1 999999999\n", 3, api.ErrRange},
		{headLine + "sensor w nor -1 1 2\n" + aLine + aLine, 4, api.ErrKind}, {headLine + strings.Repeat(aLine, 9), 10, api.ErrMany}, {headLine + strings.Repeat(aLine, 170), 171, api.ErrMany},
		{strings.Repeat("a", 4096), 0, api.ErrSyntax}, {strings.Repeat("a", 4097), 0, api.ErrLong}, {strings.Repeat("\n", 4096), 0, api.ErrSyntax}, {strings.Repeat("\n", 4097), 0, api.ErrLong}, {string(make([]byte, 5000)), 0, api.ErrLong},
		{filled(headLine+aLine, 4096), 2, api.ErrSyntax}, {filled(headLine+aLine, 4097), 0, api.ErrLong}, {headLine + strings.Repeat(aLine, 178), 0, api.ErrLong},
	} {
		same(t, "Parse", all(x.s, parsed(x.s)), all(x.s, all(monitor.Plant{}, x.at, x.e)))
	}
}

func TestParsedAsPrinted(t *testing.T) {
	r := numbers{5}
	again := 0
	for range 5000 {
		p := r.plant(r.far(), 8)
		s, e := monitor.Print(p)
		same(t, "Print and Parse", all(e, parsed(s)), all(api.OK, all(p, 0, api.OK)))
		damaged := []byte(s)
		damaged[r.below(len(s))] = byte("0 -\nxa1"[r.below(7)])
		if p, _, e := monitor.Parse(string(damaged)); e == api.OK {
			same(t, "Parse and Print", printed(p), all(string(damaged), api.OK))
			again++
		}
	}
	same(t, "are there strings that are right by chance", all(again > 300), all(true))
}
