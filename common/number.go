package common

import "glideslope/api"

// turns has the powers of i from 0 to 3.
var turns = [4]api.Gauss{{Re: 1, Im: 0}, {Re: 0, Im: 1}, {Re: -1, Im: 0}, {Re: 0, Im: -1}}

// Turn returns i to the power of a number.
func Turn(k int) api.Gauss { return turns[k&3] }

// CheckTurns returns ErrRange if a number of quarter turns is not from 0 to 3, or OK.
func CheckTurns(k int) api.Errno { return Between(k, 0, len(turns)-1) }

// Complex returns a complex integer as a complex number.
func Complex(g api.Gauss) complex128 { return complex(float64(g.Re), float64(g.Im)) }

// Gauss returns the complex integer of a complex number whose parts are integers.
func Gauss(x complex128) api.Gauss { return api.Gauss{Re: int(real(x)), Im: int(imag(x))} }

// Conjugate returns the conjugate of a complex number.
func Conjugate(x complex128) complex128 { return complex(real(x), -imag(x)) }

// Along returns the real part of the product of a number and the conjugate of another one. The parts of both are integers.
func Along(a, b complex128) int { return int(real(a * Conjugate(b))) }

// CheckParts returns ErrRange if a part of a complex integer is above a limit, or below its opposite, or OK.
func CheckParts(most int, l ...api.Gauss) api.Errno {
	return First(Mapped(l, func(g api.Gauss) api.Errno {
		return First(Between(g.Re, -most, most), Between(g.Im, -most, most))
	})...)
}

// Absolute returns the absolute value of a number.
func Absolute(n int) int { return max(n, -n) }

// Floor returns the quotient of a number and one above 0, rounded down.
func Floor[T int | int64](num, den T) T {
	n := num / den
	if n*den > num {
		n--
	}
	return n
}

// Ceiling returns the quotient of a number and one above 0, rounded up.
func Ceiling[T int | int64](num, den T) T { return -Floor(-num, den) }

// Nearest returns the integer nearest to the quotient of a number and one above 0, from the middle the greater one.
func Nearest[T int | int64](num, den T) T { return Floor(2*num+den, 2*den) }
