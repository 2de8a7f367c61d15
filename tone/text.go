package tone

import (
	"strings"

	"glideslope/api"
	"glideslope/common"
)

const signalWord = "signal"

// Print returns the string of signals.
func Print(l []Signal) (string, api.Errno) {
	if e := checkSignals(l); e != api.OK {
		return "", e
	}
	var b strings.Builder
	for s := range visited(l) {
		b.WriteString(common.NumberLine(signalWord, s.Carrier.Re, s.Carrier.Im, s.Low.Re, s.Low.Im, s.High.Re, s.High.Im))
	}
	return b.String(), api.OK
}

// Parse returns the signals with a string, or the index of the first line that is wrong.
func Parse(s string) ([]Signal, int, api.Errno) {
	return common.ParseLines(s, signalWord, 6, signalOf, checkSignals)
}

// signalOf returns the signal whose numbers have these parts.
func signalOf(l []int) Signal {
	return Signal{
		Carrier: api.Gauss{Re: l[0], Im: l[1]},
		Low:     api.Gauss{Re: l[2], Im: l[3]},
		High:    api.Gauss{Re: l[4], Im: l[5]},
	}
}
