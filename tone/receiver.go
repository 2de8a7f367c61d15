package tone

import (
	"cmp"
	"slices"

	"glideslope/api"
	"glideslope/common"
)

const maxSquare = 2 * MaxAmplitude * MaxAmplitude

// The flags of a receiver.
const (
	weakFlag  = "weak"
	depthFlag = "depth"
)

// CheckReceiver returns the first error of a receiver, or OK.
func CheckReceiver(r Receiver) api.Errno {
	return common.First(
		common.Between(r.Scale, 1, MaxScale),
		common.Between(r.Full, 1, MaxUnits),
		common.Between(r.Least, 0, maxSquare),
		common.CheckInterval(r.Sum, -MaxBand, MaxBand))
}

// flag returns the first flag that applies to a signal, or the empty string.
func (r Receiver) flag(s Signal) string {
	sum := s.sum().times(integer(Whole))
	applies := map[string]bool{
		weakFlag:  s.square() < r.Least,
		depthFlag: sum.compare(integer(r.Sum.Low)) < 0 || sum.compare(integer(r.Sum.High)) > 0,
	}
	flag := ""
search:
	for _, word := range [2]string{weakFlag, depthFlag} {
		if applies[word] {
			flag = word
			break search
		}
	}
	return flag
}

// shown returns what a receiver without a flag shows for a needle.
func (r Receiver) shown(needle quotient) int {
	n := needle.times(integer(r.Scale)).nearest()
	return int(max(int64(-r.Full), min(int64(r.Full), n)))
}

// told returns the needle that a receiver shows, and its flag.
func (r Receiver) told(s Signal) (int, string) {
	if flag := r.flag(s); flag != "" {
		return 0, flag
	}
	return r.shown(s.needle()), ""
}

// Told returns the needle that a receiver shows, and its flag.
func Told(r Receiver, s Signal) (int, string, api.Errno) {
	if e := common.First(CheckReceiver(r), CheckSignal(s)); e != api.OK {
		return 0, "", e
	}
	needle, flag := r.told(s)
	return needle, flag, api.OK
}

// Followed returns the needle of a receiver with a lag after each signal.
func Followed(r Receiver, lag, start int, l []Signal) ([]int, api.Errno) {
	e := common.First(
		CheckReceiver(r),
		common.Between(lag, 1, MaxLag),
		common.Between(start, -r.Full, r.Full),
		checkSignals(l))
	if e != api.OK {
		return nil, e
	}
	n := start
	needles := make([]int, len(l))
	for s := range visited(l) {
		if needle, flag := r.told(s.Signal); flag == "" {
			n += int(quotient{int64(needle - n), int64(lag)}.floor())
		}
		needles[s.at] = n
	}
	return needles, api.OK
}

// Flagged returns the spans of signals in which a receiver shows a flag.
func Flagged(r Receiver, l []Signal) ([]api.Span, api.Errno) {
	if e := common.First(CheckReceiver(r), checkSignals(l)); e != api.OK {
		return nil, e
	}
	return common.SpansWhere(l, func(s Signal) bool { return r.flag(s) != "" }), api.OK
}

// Crossings returns the spans of signals in which the needle changes its sign.
func Crossings(l []Signal) ([]api.Span, api.Errno) {
	if e := checkSignals(l); e != api.OK {
		return nil, e
	}
	compare := quotient.compare
	signs := common.Mapped(l, func(s Signal) int { return compare(s.needle(), integer(0)) })
	before := make([]int, len(signs)) // 0 is before the first sign: nothing changes there
	copy(before[1:], signs)
	spans := common.SpansWhere(signs, func(sign int) bool { return sign == 0 })
	for i, sign := range signs {
		if sign*before[i] < 0 {
			spans = append(spans, api.Span{From: i - 1, To: i + 1})
		}
	}
	slices.SortFunc(spans, func(a, b api.Span) int { return cmp.Compare(a.From, b.From) })
	return spans, api.OK
}
