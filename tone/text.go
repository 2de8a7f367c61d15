package tone

import (
	"strings"

	"glideslope/api"
	"glideslope/common"
)

const signalWord = "signal"

// Print returns the string of signals.
func Print(l []Signal) (string, api.Errno) {
	if e := checkSignals(l); e != api.OK {
		return "", e
	}
	var b strings.Builder
	for s := range visited(l) {
		b.WriteString(common.NumberLine(signalWord, s.Carrier.Re, s.Carrier.Im, s.Low.Re, s.Low.Im, s.High.Re, s.High.Im))
	}
	return b.String(), api.OK
}

// Parse returns the signals with a string, or the index of the first line that is wrong.
func Parse(s string) ([]Signal, int, api.Errno) {
	var l []Signal
	n, e := common.ReadLines(s, func(_ int, w *common.Words) bool {
		x, is := readSignal(w)
		l = append(l, x)
		return is
	})
	e = common.First(e, checkSignals(l))
	if e != api.OK {
		return nil, n, e
	}
	return l, 0, api.OK
}

// readSignal returns the signal of a line, and whether the line is one.
func readSignal(w *common.Words) (Signal, bool) {
	take := w.Next
	word := take()
	n, is := common.Integers(6, take)
	return Signal{
		Carrier: api.Gauss{Re: n[0], Im: n[1]},
		Low:     api.Gauss{Re: n[2], Im: n[3]},
		High:    api.Gauss{Re: n[4], Im: n[5]},
	}, is && word == signalWord
}
