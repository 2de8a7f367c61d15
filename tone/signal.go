package tone

import (
	"glideslope/api"
	"glideslope/common"
)

// tone is one of both tones: its factors at the indices of a panel, and its sideband.
type tone struct {
	factors  [4]int
	sideband func(s Signal) api.Gauss
}

// tones returns the low and the high tone.
func tones() [2]tone {
	return [2]tone{
		{[4]int{1, 1, -1, -1}, func(s Signal) api.Gauss { return s.Low }},
		{[4]int{1, -1, 1, -1}, func(s Signal) api.Gauss { return s.High }},
	}
}

// CheckSignal returns the first error of a signal, or OK.
func CheckSignal(s Signal) api.Errno {
	return common.First(
		common.CheckParts(MaxAmplitude, s.Carrier, s.Low, s.High),
		common.Failed(s.Carrier == api.Gauss{}, api.ErrZero))
}

// checkResult returns the first error of a signal that is a result, or OK.
func checkResult(s Signal) api.Errno {
	e := CheckSignal(s)
	if e == api.ErrRange {
		return api.ErrLarge
	}
	return e
}

// square returns the square of the carrier.
func (s Signal) square() int { return square(s.Carrier) }

// depths returns the depths of both tones; their denominator is the square of the carrier.
func (s Signal) depths() [2]quotient {
	var d [2]quotient
	for i, t := range tones() {
		d[i] = quotient{int64(along(t.sideband(s), s.Carrier)), int64(s.square())}
	}
	return d
}

// needle returns the needle; its denominator is the square of the carrier.
func (s Signal) needle() quotient {
	d := s.depths()
	return quotient{d[0].num - d[1].num, d[0].den}
}

// sum returns the sum of both depths.
func (s Signal) sum() quotient {
	d := s.depths()
	return quotient{d[0].num + d[1].num, d[0].den}
}

// multiplied returns a signal after factors of its carrier and of its sidebands.
func (s Signal) multiplied(carrier, sidebands api.Gauss) Signal {
	return Signal{times(s.Carrier, carrier), times(s.Low, sidebands), times(s.High, sidebands)}
}

// Depths returns the depths of the low and of the high tone.
func Depths(s Signal) (api.Ratio, api.Ratio, api.Errno) {
	if e := CheckSignal(s); e != api.OK {
		return api.Ratio{}, api.Ratio{}, e
	}
	d := s.depths()
	return d[0].ratio(), d[1].ratio(), api.OK
}

// Needle returns the needle of a signal.
func Needle(s Signal) (api.Ratio, api.Errno) {
	if e := CheckSignal(s); e != api.OK {
		return api.Ratio{}, e
	}
	return s.needle().ratio(), api.OK
}

// Sum returns the sum of both depths.
func Sum(s Signal) (api.Ratio, api.Errno) {
	if e := CheckSignal(s); e != api.OK {
		return api.Ratio{}, e
	}
	return s.sum().ratio(), api.OK
}

// Added returns the sum of two signals on one frequency.
func Added(a, b Signal) (Signal, api.Errno) {
	if e := common.First(CheckSignal(a), CheckSignal(b)); e != api.OK {
		return Signal{}, e
	}
	return result(Signal{plus(a.Carrier, b.Carrier), plus(a.Low, b.Low), plus(a.High, b.High)})
}

// result returns a signal if it has no error, or its error.
func result(s Signal) (Signal, api.Errno) {
	if e := checkResult(s); e != api.OK {
		return Signal{}, e
	}
	return s, api.OK
}

// Turned returns a signal turned by quarter turns.
func Turned(s Signal, k int) (Signal, api.Errno) {
	if e := common.First(CheckSignal(s), common.CheckTurns(k)); e != api.OK {
		return Signal{}, e
	}
	return s.multiplied(common.Turn(k), common.Turn(k)), api.OK
}

// Scaled returns a signal after factors of its carrier and of its sidebands.
func Scaled(s Signal, carrier, sidebands api.Gauss) (Signal, api.Errno) {
	e := common.First(
		CheckSignal(s),
		common.CheckParts(MaxFactor, carrier),
		common.Failed(carrier == api.Gauss{}, api.ErrZero),
		common.CheckParts(MaxFactor, sidebands))
	if e != api.OK {
		return Signal{}, e
	}
	return result(s.multiplied(carrier, sidebands))
}
