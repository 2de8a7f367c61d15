package tone

import (
	"cmp"

	"glideslope/api"
	"glideslope/common"
)

// turns has the powers of i from 0 to 3.
var turns = [4]api.Gauss{{Re: 1, Im: 0}, {Re: 0, Im: 1}, {Re: -1, Im: 0}, {Re: 0, Im: -1}}

func complexOf(g api.Gauss) complex128 { return complex(float64(g.Re), float64(g.Im)) }

// gaussOf returns the complex integer of a complex number whose parts are integers.
func gaussOf(x complex128) api.Gauss { return api.Gauss{Re: int(real(x)), Im: int(imag(x))} }

func conjugate(x complex128) complex128 { return complex(real(x), -imag(x)) }

func plus(a, b api.Gauss) api.Gauss { return gaussOf(complexOf(a) + complexOf(b)) }

func times(a, b api.Gauss) api.Gauss { return gaussOf(complexOf(a) * complexOf(b)) }

// along returns the real part of the product of a number and the conjugate of another one.
func along(a, b api.Gauss) int { return int(real(complexOf(a) * conjugate(complexOf(b)))) }

func square(g api.Gauss) int { return along(g, g) }

// quotient is a quotient of two integers, not always in lowest terms, with a denominator above 0.
type quotient struct {
	num int64
	den int64
}

func integer(n int) quotient { return quotient{int64(n), 1} }

// ratio returns a quotient in lowest terms.
func (x quotient) ratio() api.Ratio { return common.Ratio(int(x.num), int(x.den)) }

func (x quotient) times(y quotient) quotient { return quotient{x.num * y.num, x.den * y.den} }

func (x quotient) compare(y quotient) int { return cmp.Compare(x.num*y.den, y.num*x.den) }

// floor returns the greatest integer that is not above a quotient.
func (x quotient) floor() int64 {
	n := x.num / x.den
	if n*x.den > x.num {
		n--
	}
	return n
}

// nearest returns the nearest integer, from the middle the greater one.
func (x quotient) nearest() int64 { return quotient{2*x.num + x.den, 2 * x.den}.floor() }
