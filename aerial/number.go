package aerial

import (
	"math"

	"glideslope/api"
	"glideslope/common"
)

// part is one of both parts of complex numbers.
type part struct {
	of func(x complex128) float64
}

// parts returns the real and the imaginary part.
func parts() [2]part {
	return [2]part{
		{func(x complex128) float64 { return real(x) }},
		{func(x complex128) float64 { return imag(x) }},
	}
}

// some reports whether something holds for a part of a number.
func some(x complex128, holds func(n float64) bool) bool {
	for _, p := range parts() {
		if holds(p.of(x)) {
			return true
		}
	}
	return false
}

// checkNumber returns the error of a complex number with a limit, or OK.
func checkNumber(x complex128, most float64) api.Errno {
	return common.First(
		common.Failed(some(x, func(n float64) bool { return math.IsNaN(n) || math.IsInf(n, 0) }), api.ErrForm),
		common.Failed(some(x, func(n float64) bool { return n != math.Trunc(n) || math.Abs(n) > most }), api.ErrRange))
}

// checkSquares returns ErrForm if the square of a whole is not the sum of the squares of two parts, or OK.
func checkSquares(a, b, whole int) api.Errno {
	return common.Failed(a*a+b*b != whole*whole, api.ErrForm)
}

// scalar returns an integer as a complex number.
func scalar(n int) complex128 { return complex(float64(n), 0) }

// turned returns a number, whose parts are integers, after quarter turns. No part is -0.
func turned(x complex128, k int) complex128 {
	return unsigned(x * common.Complex(common.Turn(k)))
}

// unsigned returns a number, whose parts are integers, with 0 in place of -0.
func unsigned(x complex128) complex128 { return common.Complex(common.Gauss(x)) }

// power returns the square of the absolute value of a field.
func power(field complex128) int { return common.Along(field, field) }

// Power returns the power of a field.
func Power(field complex128) (int, api.Errno) {
	if e := checkNumber(field, MaxPower); e != api.OK {
		return 0, e
	}
	return power(field), api.OK
}
