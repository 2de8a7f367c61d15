package record_test

import (
	"math"
	"math/big"
	"slices"
	"testing"

	"glideslope/api"
	"glideslope/record"
)

// The tests of this file are those of P1.3.

// marks returns n marks at the indices from 0 on.
func marks(n int) []record.Marker {
	var l []record.Marker
	for i := range n {
		l = append(l, record.Marker{Index: i, Name: "m"})
	}
	return l
}

// wrong is changes of R, and the error that each of them leads to.
var wrong = []struct {
	change func(r *record.Recording)
	e      api.Errno
}{
	{func(r *record.Recording) { r.Start = -1 }, api.ErrRange},
	{func(r *record.Recording) { r.Start, r.Samples, r.Marks = 100000001, nil, nil }, api.ErrRange},
	{func(r *record.Recording) { r.Start, r.Samples[0] = -1, nan }, api.ErrRange},
	{func(r *record.Recording) { r.Start = math.MaxInt }, api.ErrRange},
	{func(r *record.Recording) { r.Start, r.Step = math.MinInt, math.MinInt }, api.ErrRange},
	{func(r *record.Recording) { r.Step = 0 }, api.ErrRange},
	{func(r *record.Recording) { r.Step = -1 }, api.ErrRange},
	{func(r *record.Recording) { r.Step = 1001 }, api.ErrRange},
	{func(r *record.Recording) { r.Step, r.Samples[0] = 0, nan }, api.ErrRange},
	{func(r *record.Recording) { r.Step = math.MaxInt }, api.ErrRange},
	{func(r *record.Recording) { r.Samples = make([]float32, 4097) }, api.ErrMany},
	{func(r *record.Recording) { r.Samples[3] = nan }, api.ErrForm},
	{func(r *record.Recording) { r.Samples[2], r.Samples[3] = 0.01, nan }, api.ErrRange},
	{func(r *record.Recording) { r.Start, r.Samples[3] = 99999971, nan }, api.ErrForm},
	{func(r *record.Recording) { r.Start = 99999971 }, api.ErrLarge},
	{func(r *record.Recording) { r.Start, r.Marks = 99999971, marks(17) }, api.ErrLarge},
	{func(r *record.Recording) { r.Samples, r.Marks = make([]float32, 20), marks(17) }, api.ErrMany},
	{func(r *record.Recording) { r.Marks = make([]record.Marker, 17) }, api.ErrMany},
	{func(r *record.Recording) { r.Marks[1].Index = 4 }, api.ErrUnknown},
	{func(r *record.Recording) { r.Marks[0].Index = -1 }, api.ErrUnknown},
	{func(r *record.Recording) { r.Marks[1] = record.Marker{Index: 4, Name: ""} }, api.ErrUnknown},
	{func(r *record.Recording) { r.Samples = nil }, api.ErrUnknown},
	{func(r *record.Recording) { r.Marks[1].Name = "9" }, api.ErrName},
	{func(r *record.Recording) { r.Marks[0].Name = "" }, api.ErrName},
	{func(r *record.Recording) { r.Marks[1] = record.Marker{Index: 0, Name: "a b"} }, api.ErrName},
	{func(r *record.Recording) { r.Marks[1].Index = 1 }, api.ErrOrder},
	{func(r *record.Recording) { r.Marks[1].Index = 0 }, api.ErrOrder},
	{func(r *record.Recording) {
		r.Marks = []record.Marker{{Index: 2, Name: "a"}, {Index: 1, Name: "b"}, {Index: 9, Name: "c"}}
	}, api.ErrOrder},
	{func(r *record.Recording) {
		r.Marks = []record.Marker{{Index: 2, Name: "a"}, {Index: 9, Name: "b"}, {Index: 1, Name: "c"}}
	}, api.ErrUnknown},
	{func(r *record.Recording) { r.Marks[0].Name, r.Marks[1].Index = "", 7 }, api.ErrName},
}

func TestCheckRecording(t *testing.T) {
	for i, change := range []func(r *record.Recording){
		func(r *record.Recording) {},
		func(r *record.Recording) { r.Start = 0 },
		func(r *record.Recording) { r.Start = 99999970 },
		func(r *record.Recording) { r.Start, r.Samples, r.Marks = 100000000, nil, nil },
		func(r *record.Recording) { r.Start, r.Step, r.Samples, r.Marks = 100000000, 1000, []float32{1}, nil },
		func(r *record.Recording) { r.Step = 1 },
		func(r *record.Recording) { r.Step, r.Samples = 1000, make([]float32, 4096) },
		func(r *record.Recording) { r.Marks[1].Name = "outer" },
		func(r *record.Recording) { r.Marks = marks(4) },
		func(r *record.Recording) { r.Samples, r.Marks = make([]float32, 16), marks(16) },
		func(r *record.Recording) { r.Marks = nil },
	} {
		same(t, "CheckRecording", all(i, record.CheckRecording(changed(change))), all(i, api.OK))
	}
	for i, x := range wrong {
		same(t, "CheckRecording with errors", all(i, record.CheckRecording(changed(x.change))), all(i, x.e))
	}
}

func TestCut(t *testing.T) {
	outer, inner := record.Marker{Index: 1, Name: "outer"}, record.Marker{Index: 3, Name: "inner"}
	at := func(m record.Marker, i int) record.Marker { m.Index = i; return m }
	for _, x := range []struct {
		s     api.Span
		start int
		l     []float32
		marks []record.Marker
	}{
		{span(1, 3), 110, []float32{2, 3}, []record.Marker{at(outer, 0)}},
		{span(0, 4), 100, []float32{1, 2, 3, 4}, []record.Marker{outer, inner}},
		{span(0, 3), 100, []float32{1, 2, 3}, []record.Marker{outer}},
		{span(1, 4), 110, []float32{2, 3, 4}, []record.Marker{at(outer, 0), at(inner, 2)}},
		{span(2, 4), 120, []float32{3, 4}, []record.Marker{at(inner, 1)}},
		{span(0, 1), 100, []float32{1}, nil},
		{span(0, 0), 100, nil, nil},
		{span(1, 1), 110, nil, nil},
		{span(4, 4), 140, nil, nil},
	} {
		r, e := record.Cut(tape(), x.s)
		same(t, "Cut", all(x.s, r, e), all(x.s, record.Recording{Start: x.start, Step: 10, Samples: x.l, Marks: x.marks}, api.OK))
	}
	empty := record.Recording{Start: 100000000, Step: 7}
	r, e := record.Cut(empty, span(0, 0))
	same(t, "Cut of nothing", all(r, e), all(empty, api.OK))
}

func TestCutErrors(t *testing.T) {
	for _, s := range []api.Span{span(-1, 2), span(3, 2), span(0, 5), span(5, 5), span(4, 3), span(math.MinInt, math.MaxInt), span(math.MaxInt, math.MinInt)} {
		r, e := record.Cut(tape(), s)
		same(t, "Cut with a span with errors", all(s, r, e), all(s, record.Recording{}, api.ErrSpan))
	}
	for i, x := range wrong {
		r, e := record.Cut(changed(x.change), span(-1, -2))
		same(t, "Cut of a recording with errors", all(i, r, e), all(i, record.Recording{}, x.e))
	}
	late := changed(func(r *record.Recording) { r.Start = 99999970 })
	r, e := record.Cut(late, span(4, 4))
	same(t, "Cut after the last tick", all(r, e), all(record.Recording{}, api.ErrRange))
	r, e = record.Cut(late, span(3, 3))
	same(t, "Cut at the last tick", all(r, e), all(record.Recording{Start: 100000000, Step: 10}, api.OK))
	r, e = record.Cut(late, span(0, 4))
	same(t, "Cut of all up to the last tick", all(r, e), all(late, api.OK))
	exact := changed(func(r *record.Recording) { r.Start = 99999960 })
	r, e = record.Cut(exact, span(4, 4))
	same(t, "Cut up to the last tick", all(r, e), all(record.Recording{Start: 100000000, Step: 10}, api.OK))
	_, e = record.Cut(late, span(5, 5))
	same(t, "Cut outside and after the last tick", all(e), all(api.ErrSpan))
}

func TestJoined(t *testing.T) {
	empty := func(start int) record.Recording { return record.Recording{Start: start, Step: 10} }
	next := record.Recording{Start: 140, Step: 10, Samples: []float32{5, 6}, Marks: []record.Marker{{Index: 0, Name: "outer"}, {Index: 1, Name: "stop"}}}
	six := record.Recording{Start: 100, Step: 10, Samples: []float32{1, 2, 3, 4, 5, 6}, Marks: []record.Marker{
		{Index: 1, Name: "outer"}, {Index: 3, Name: "inner"}, {Index: 4, Name: "outer"}, {Index: 5, Name: "stop"}}}
	for i, x := range []struct{ a, b, both record.Recording }{
		{tape(), next, six}, {tape(), empty(140), tape()}, {empty(100), tape(), tape()}, {empty(5), empty(5), empty(5)},
		{record.Recording{Step: 1, Samples: make([]float32, 4000)}, record.Recording{Start: 4000, Step: 1, Samples: make([]float32, 96)}, record.Recording{Step: 1, Samples: make([]float32, 4096)}},
	} {
		r, e := record.Joined(x.a, x.b)
		same(t, "Joined", all(i, r, e), all(i, x.both, api.OK))
	}
}

func TestJoinedErrors(t *testing.T) {
	from := func(step, start, n, m int) record.Recording {
		return record.Recording{Start: start, Step: step, Samples: make([]float32, n), Marks: marks(m)}
	}
	for i, x := range []struct {
		a, b record.Recording
		e    api.Errno
	}{
		{tape(), from(11, 140, 1, 0), api.ErrShape},
		{tape(), from(11, 141, 4096, 16), api.ErrShape},
		{tape(), from(10, 141, 1, 0), api.ErrOrder},
		{tape(), from(10, 139, 4096, 16), api.ErrOrder},
		{tape(), tape(), api.ErrOrder},
		{tape(), from(10, 140, 4093, 16), api.ErrMany},
		{tape(), from(10, 140, 4092, 14), api.OK},
		{tape(), from(10, 140, 4092, 15), api.ErrMany},
		{tape(), from(10, 140, 4093, 0), api.ErrMany},
		{record.Recording{}, from(0, 0, 0, 0), api.ErrRange},
	} {
		r, e := record.Joined(x.a, x.b)
		same(t, "Joined with errors", all(i, e), all(i, x.e))
		if e != api.OK {
			same(t, "Joined beside an error", all(i, r), all(i, record.Recording{}))
		}
	}
	for i, x := range wrong {
		_, e := record.Joined(changed(x.change), record.Recording{})
		same(t, "Joined with a first one with errors", all(i, e), all(i, x.e))
		_, e = record.Joined(tape(), changed(x.change))
		same(t, "Joined with a second one with errors", all(i, e), all(i, x.e))
	}
}

// bestShift is the best shift as the chapter defines it, with big ratios, and false if there is none.
func bestShift(a, b []float32, reach, least int) (int, *big.Rat, bool) {
	var best *big.Rat
	at := 0
	for s := -reach; s <= reach; s++ {
		sum, n := 0, 0
		for i := range a {
			if j := i + s; j >= 0 && j < len(b) {
				sum += int(math.Abs(16*float64(a[i]) - 16*float64(b[j])))
				n++
			}
		}
		if n < least {
			continue
		}
		if d := big.NewRat(int64(sum), int64(n)); best == nil || d.Cmp(best) < 0 {
			best, at = d, s
		}
	}
	return at, best, best != nil
}

func TestAligned(t *testing.T) {
	for i, x := range []struct {
		a, b         []float32
		reach, least int
		shift        int
		by           api.Ratio
	}{
		{units(0, 0, 16, 0, 0), units(0, 0, 0, 16, 0), 2, 3, 1, api.Ratio{Num: 0, Den: 1}},
		{units(0, 0, 16, 0, 0), units(0, 0, 0, 16, 0), 0, 3, 0, api.Ratio{Num: 32, Den: 5}},
		{units(0, 0, 0, 16, 0), units(0, 0, 16, 0, 0), 2, 3, -1, api.Ratio{Num: 0, Den: 1}},
		{units(5, 5, 5), units(5, 5, 5), 2, 1, -2, api.Ratio{Num: 0, Den: 1}},
		{units(5, 5, 5), units(5, 5, 5), 256, 3, 0, api.Ratio{Num: 0, Den: 1}},
		{units(0, 4), units(3, 1), 1, 1, -1, api.Ratio{Num: 1, Den: 1}}, // and 1 at 1: the least shift counts
		{units(16384), units(-16384), 0, 1, 0, api.Ratio{Num: 32768, Den: 1}},
		{units(1, 1, 1, 1), units(3, 3, 2, 1), 0, 4, 0, api.Ratio{Num: 5, Den: 4}},
		{units(1, 2, 3, 4), units(3, 2, 3, 4), 0, 4, 0, api.Ratio{Num: 1, Den: 2}},
		{units(7), units(1, 2, 3, 4, 5, 6, 7), 6, 1, 6, api.Ratio{Num: 0, Den: 1}},
		{units(1, 2, 3, 4, 5, 6, 7), units(7), 256, 1, -6, api.Ratio{Num: 0, Den: 1}},
		{slices.Repeat(units(16384), 4096), slices.Repeat(units(-16384), 4096), 256, 4096, 0, api.Ratio{Num: 32768, Den: 1}},
	} {
		shift, by, e := record.Aligned(x.a, x.b, x.reach, x.least)
		same(t, "Aligned", all(i, shift, by, e), all(i, x.shift, x.by, api.OK))
	}
}

func TestAlignedAgainstDefinition(t *testing.T) {
	r := numbers{3}
	for range 2000 {
		small := func(n int) []float32 {
			l := make([]int, n)
			for i := range l {
				l[i] = r.below(7) - 3
			}
			return units(l...)
		}
		a, b, reach, least := small(r.below(9)), small(r.below(9)), r.below(6), 1+r.below(5)
		want, d, is := bestShift(a, b, reach, least)
		shift, by, e := record.Aligned(a, b, reach, least)
		if !is {
			same(t, "Aligned at no shift", all(a, b, reach, least, shift, by, e), all(a, b, reach, least, 0, api.Ratio{}, api.ErrShort))
			continue
		}
		ratio := api.Ratio{Num: int(d.Num().Int64()), Den: int(d.Denom().Int64())}
		same(t, "Aligned", all(a, b, reach, least, shift, by, e), all(a, b, reach, least, want, ratio, api.OK))
	}
}

func TestAlignedErrors(t *testing.T) {
	many := make([]float32, 4097)
	for i, x := range []struct {
		a, b         []float32
		reach, least int
		e            api.Errno
	}{
		{many, []float32{nan}, -1, 0, api.ErrMany}, {[]float32{nan}, many, -1, 0, api.ErrForm}, {[]float32{0.01}, []float32{nan}, 0, 1, api.ErrRange},
		{nil, many, -1, 0, api.ErrMany}, {nil, []float32{nan}, -1, 0, api.ErrForm},
		{nil, nil, -1, 1, api.ErrRange}, {nil, nil, 257, 1, api.ErrRange}, {nil, nil, math.MaxInt, 1, api.ErrRange}, {nil, nil, math.MinInt, 1, api.ErrRange},
		{nil, nil, 0, 0, api.ErrRange}, {nil, nil, 0, 4097, api.ErrRange}, {nil, nil, 0, math.MinInt, api.ErrRange}, {nil, nil, 0, math.MaxInt, api.ErrRange},
		{nil, nil, 0, 1, api.ErrShort}, {units(1), nil, 256, 1, api.ErrShort}, {nil, units(1), 256, 4096, api.ErrShort},
		{units(1, 2), units(1), 5, 2, api.ErrShort}, {make([]float32, 4095), make([]float32, 4096), 256, 4096, api.ErrShort},
	} {
		shift, by, e := record.Aligned(x.a, x.b, x.reach, x.least)
		same(t, "Aligned with errors", all(i, shift, by, e), all(i, 0, api.Ratio{}, x.e))
	}
}
