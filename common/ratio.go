package common

import "glideslope/api"

// Divisor returns the greatest common divisor of two numbers; that of 0 and another one is the other one.
func Divisor(a, b int) int {
	for b != 0 {
		a, b = b, a%b
	}
	return Absolute(a)
}

// Ratio returns the quotient of a number and one above 0 in lowest terms.
func Ratio(num, den int) api.Ratio {
	by := max(1, Divisor(num, den)) // 0 by 0 is no quotient, but nothing to panic at
	return api.Ratio{Num: num / by, Den: den / by}
}
