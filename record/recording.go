package record

import (
	"glideslope/api"
	"glideslope/common"
)

// after reports whether a mark has a greater index than another one.
func (m Marker) after(o Marker) bool { return m.Index > o.Index }

// tick returns the tick of the sample at an index.
func (r Recording) tick(i int) int { return r.Start + i*r.Step }

// CheckRecording returns the first error of a recording, or OK.
func CheckRecording(r Recording) api.Errno {
	n := len(r.Samples)
	return common.First(
		common.Between(r.Start, 0, api.MaxTick),
		common.Between(r.Step, 1, MaxStep),
		CheckSamples(r.Samples),
		common.Failed(n > 0 && r.tick(n-1) > api.MaxTick, api.ErrLarge),
		checkMarks(r.Marks, n))
}

// checkMarks returns the first error of marks of n samples, or OK.
func checkMarks(l []Marker, n int) api.Errno {
	if len(l) > MaxMarks {
		return api.ErrMany
	}
	after := Marker.after
	for i, m := range l {
		e := common.First(
			common.CheckIndex(m.Index, n),
			common.Failed(!IsName(m.Name), api.ErrName),
			common.Failed(i > 0 && !after(m, l[i-1]), api.ErrOrder))
		if e != api.OK {
			return e
		}
	}
	return api.OK
}

// Cut returns a part of a recording.
func Cut(r Recording, s api.Span) (Recording, api.Errno) {
	e := common.First(
		CheckRecording(r),
		common.Failed(s.From < 0 || s.To < s.From || s.To > len(r.Samples), api.ErrSpan),
		common.Failed(r.tick(s.From) > api.MaxTick, api.ErrRange))
	if e != api.OK {
		return Recording{}, e
	}
	var marks []Marker
	for _, m := range r.Marks {
		if m.Index >= s.From && m.Index < s.To {
			marks = append(marks, m)
		}
	}
	samples := append([]float32(nil), r.Samples[s.From:s.To]...)
	return Recording{r.tick(s.From), r.Step, samples, moved(marks, -s.From)}, api.OK
}

// moved returns marks whose indices are greater by a number.
func moved(l []Marker, by int) []Marker {
	return common.Mapped(l, func(m Marker) Marker { return Marker{m.Index + by, m.Name} })
}

// Joined returns a recording and the one that follows it as one.
func Joined(a, b Recording) (Recording, api.Errno) {
	e := common.First(
		CheckRecording(a),
		CheckRecording(b),
		common.Failed(a.Step != b.Step, api.ErrShape),
		common.Failed(b.Start != a.tick(len(a.Samples)), api.ErrOrder),
		common.Failed(len(a.Samples)+len(b.Samples) > api.MaxSamples, api.ErrMany),
		common.Failed(len(a.Marks)+len(b.Marks) > MaxMarks, api.ErrMany))
	if e != api.OK {
		return Recording{}, e
	}
	samples := make([]float32, len(a.Samples)+len(b.Samples))
	n := copy(samples, a.Samples)
	copy(samples[n:], b.Samples)
	marks := append(moved(a.Marks, 0), moved(b.Marks, n)...)
	return Recording{a.Start, a.Step, samples, marks}, api.OK
}

// Aligned returns the shift by which two lists of samples differ least, and how much.
func Aligned(a, b []float32, reach, least int) (int, api.Ratio, api.Errno) {
	e := common.First(CheckSamples(a), CheckSamples(b), common.Between(reach, 0, MaxReach), common.Between(least, 1, api.MaxSamples))
	if e != api.OK {
		return 0, api.Ratio{}, e
	}
	x, y := common.Mapped(a, unitOf), common.Mapped(b, unitOf)
	best, shift := api.Ratio{}, 0
search:
	for s := -reach; s <= reach; s++ {
		from, to := max(0, -s), min(len(x), len(y)-s)
		if to-from < least {
			continue search
		}
		d := difference(x[from:to], y[from+s:to+s])
		if best.Den == 0 || isLess(d, best) {
			best, shift = d, s
		}
		if best.Num == 0 { // no later shift has less
			break search
		}
	}
	if best.Den == 0 {
		return 0, api.Ratio{}, api.ErrShort
	}
	return shift, best, api.OK
}

// difference returns the sum of the absolute differences of two lists, divided by their length, which is the same and above 0.
func difference(x, y []int) api.Ratio {
	sum := 0
	for i := range len(x) {
		sum += max(x[i]-y[i], y[i]-x[i])
	}
	return common.Ratio(sum, len(x))
}

func isLess(x, y api.Ratio) bool {
	return int64(x.Num)*int64(y.Den) < int64(y.Num)*int64(x.Den)
}
