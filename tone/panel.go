package tone

import (
	"math"

	"glideslope/api"
	"glideslope/common"
)

// panel is four numbers whose parts are integers: samples, or a carrier, both sidebands and what is left.
type panel [4]complex128

// checkPanel returns the first error of a panel, or OK.
func checkPanel(p [4]complex64) api.Errno {
	return common.First(common.Mapped(p[:], func(x complex64) api.Errno {
		return common.First(checkPart(real(x)), checkPart(imag(x)))
	})...)
}

// checkPart returns the first error of a part of a sample, or OK.
func checkPart(x float32) api.Errno {
	n := float64(x)
	return common.First(
		common.Failed(n != math.Trunc(n) || math.IsInf(n, 0), api.ErrForm),
		common.Failed(math.Abs(n) > MaxSample, api.ErrRange))
}

// over returns a panel divided by a number, and whether all parts are integers then.
func (p panel) over(n int) (panel, bool) {
	by := float64(n)
	var q, product panel
	for i, x := range p {
		q[i] = complex(math.Trunc(real(x)/by), math.Trunc(imag(x)/by))
		product[i] = q[i] * complex(by, 0)
	}
	return q, product == p
}

// parted returns 4 times the carrier, both sidebands and what is left of samples.
func (p panel) parted() panel {
	low, high := tones()[0].factors, tones()[1].factors
	var q panel
	for t := range 4 {
		for i, factor := range [4]int{1, low[t], high[t], low[t] * high[t]} {
			q[i] += p[t] * complex(float64(factor), 0)
		}
	}
	return q
}

// received returns the signal of samples, and what is left.
func (p panel) received() (Signal, api.Gauss, api.Errno) {
	q, isWhole := p.parted().over(4)
	if !isWhole {
		return Signal{}, api.Gauss{}, api.ErrShape
	}
	s, e := result(Signal{common.Gauss(q[0]), common.Gauss(q[1]), common.Gauss(q[2])})
	if e != api.OK {
		return Signal{}, api.Gauss{}, e
	}
	return s, common.Gauss(q[3]), api.OK
}

// Sampled returns the four samples of a signal.
func Sampled(s Signal) ([4]complex64, api.Errno) {
	if e := CheckSignal(s); e != api.OK {
		return [4]complex64{}, e
	}
	var p [4]complex64
	for i := range 4 {
		x := common.Complex(s.Carrier)
		for _, t := range tones() {
			x += common.Complex(t.sideband(s)) * complex(float64(t.factors[i]), 0)
		}
		p[i] = complex64(x)
	}
	return p, api.OK
}

// Received returns the signal of four samples, and what is left.
func Received(p [4]complex64) (Signal, api.Gauss, api.Errno) {
	if e := checkPanel(p); e != api.OK {
		return Signal{}, api.Gauss{}, e
	}
	return sumOf(p).received()
}

// Averaged returns the signal of the averaged panels, and what is left.
func Averaged(l [][4]complex64) (Signal, api.Gauss, api.Errno) {
	if e := common.CheckSome(l, MaxPanels, checkPanel); e != api.OK {
		return Signal{}, api.Gauss{}, e
	}
	q, isWhole := sumOf(l...).over(len(l))
	if !isWhole {
		return Signal{}, api.Gauss{}, api.ErrShape
	}
	return q.received()
}

// sumOf returns the sum of panels, sample by sample.
func sumOf(l ...[4]complex64) panel {
	var sum panel
	for _, p := range l {
		for t, x := range p {
			sum[t] += complex128(x)
		}
	}
	return sum
}
