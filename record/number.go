package record

import (
	"math"

	"glideslope/api"
	"glideslope/common"
)

// powers has the powers of -i from 0 to 3.
var powers = [4]api.Gauss{{Re: 1, Im: 0}, {Re: 0, Im: -1}, {Re: -1, Im: 0}, {Re: 0, Im: 1}}

// IsName reports whether a string is a name.
func IsName(s string) bool {
	if s == "" || len(s) > api.MaxName || !isLetter(s[0]) {
		return false
	}
	for i := range len(s) {
		if !isLetter(s[i]) && !isDigit(s[i]) && s[i] != '_' {
			return false
		}
	}
	return true
}

func isLetter(b byte) bool { return isCapital(b) || b >= 'a' && b <= 'z' }

func isCapital(b byte) bool { return b >= 'A' && b <= 'Z' }

func isDigit(b byte) bool { return b >= '0' && b <= '9' }

// Draw returns the permutation of n elements by a number.
func Draw(number, n int) ([]int, api.Errno) {
	if e := common.First(common.Between(number, 0, api.MaxNumber), common.Between(n, 0, api.MaxList)); e != api.OK {
		return nil, e
	}
	l := make([]int, n)
	for i := range n {
		l[i] = i
	}
	x := int64(number)
	for i := n - 1; i >= 1; i-- {
		x = (48271*x + 11) % 2147483629
		j := int(x % int64(i+1))
		l[i], l[j] = l[j], l[i]
	}
	return l, api.OK
}

// CheckRatio returns the first error of a ratio, or OK.
func CheckRatio(x api.Ratio) api.Errno {
	if e := common.First(common.Between(x.Num, -api.MaxNumber, api.MaxNumber), common.Between(x.Den, 1, api.MaxNumber)); e != api.OK {
		return e
	}
	return common.Failed(common.Divisor(x.Num, x.Den) != 1, api.ErrForm)
}

// CheckSample returns the first error of a sample, or OK.
func CheckSample(x float32) api.Errno {
	return common.First(
		common.Failed(!isFinite(x), api.ErrForm),
		common.Failed(!isStepped(x, api.MaxValue), api.ErrRange))
}

func isFinite(x float32) bool {
	return !math.IsNaN(float64(x)) && !math.IsInf(float64(x), 0)
}

// isStepped reports whether a number is a multiple of 1/16 from -most to most.
func isStepped(x, most float32) bool {
	return x >= -most && x <= most && sampleOf(unitOf(x)) == x
}

// unitOf returns the integer of a sample.
func unitOf(x float32) int { return int(16 * x) }

// sampleOf returns the sample of an integer.
func sampleOf(n int) float32 { return float32(n) / 16 }

// CheckSamples returns the first error of samples, or OK.
func CheckSamples(l []float32) api.Errno {
	return common.CheckList(l, api.MaxSamples, CheckSample)
}

// Four returns the transform of four samples.
func Four(l [4]float32) ([4]complex64, api.Errno) {
	if e := CheckSamples(l[:]); e != api.OK {
		return [4]complex64{}, e
	}
	var p [4]complex64
	for k := range 4 {
		for n, x := range l {
			p[k] += complex(x, 0) * power(k*n)
		}
	}
	return p, api.OK
}

// power returns -i to the power of a number from 0 on.
func power(n int) complex64 {
	p := powers[n%4]
	return complex(float32(p.Re), float32(p.Im))
}

// Unfour returns the four samples of a transform.
func Unfour(p [4]complex64) ([4]float32, api.Errno) {
	if e := checkPanel(p); e != api.OK {
		return [4]float32{}, e
	}
	var l [4]float32
	for n := range 4 {
		var sum complex64
		for k, x := range p {
			sum += x * power(3*k*n) // -i to the power of 3 is i
		}
		l[n] = real(sum) / 4
	}
	if q, e := Four(l); e != api.OK || q != p {
		return [4]float32{}, api.ErrForm
	}
	return l, api.OK
}

// checkPanel returns the first error of a panel, or OK: one that is no number anywhere comes before any range.
func checkPanel(p [4]complex64) api.Errno {
	finite := common.Mapped(p[:], func(x complex64) api.Errno {
		return common.Failed(!isFinite(real(x)) || !isFinite(imag(x)), api.ErrForm)
	})
	inRange := common.Mapped(p[:], func(x complex64) api.Errno {
		return common.Failed(!isStepped(real(x), 4*api.MaxValue) || !isStepped(imag(x), 4*api.MaxValue), api.ErrRange)
	})
	return common.First(common.First(finite...), common.First(inRange...))
}
