package tone

import (
	"glideslope/api"
	"glideslope/common"
)

// Lost returns the needles that a receiver shows for all losses of the sidebands in an interval.
func Lost(r Receiver, s Signal, loss api.Interval) (api.Interval, api.Errno) {
	if e := common.First(CheckReceiver(r), CheckSignal(s), common.CheckInterval(loss, 0, Whole)); e != api.OK {
		return api.Interval{}, e
	}
	// the needle is monotonic in the loss
	a, b := r.lost(s, loss.Low), r.lost(s, loss.High)
	return common.Reach(a, b), api.OK
}

// lost returns what a receiver shows for a signal with a loss.
func (r Receiver) lost(s Signal, loss int) int {
	return r.shown(s.needle().times(quotient{int64(Whole - loss), Whole}))
}

// Noisy returns the needles that a receiver shows for all errors of the sidebands up to a number.
func Noisy(r Receiver, s Signal, noise int) (api.Interval, api.Errno) {
	if e := common.First(CheckReceiver(r), CheckSignal(s), common.Between(noise, 0, MaxNoise)); e != api.OK {
		return api.Interval{}, e
	}
	needle := s.needle()
	by := 2 * int64(noise) * int64(common.Absolute(s.Carrier.Re)+common.Absolute(s.Carrier.Im))
	return api.Interval{
		Low:  r.shown(quotient{needle.num - by, needle.den}),
		High: r.shown(quotient{needle.num + by, needle.den}),
	}, api.OK
}
