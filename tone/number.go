package tone

import (
	"cmp"

	"glideslope/api"
	"glideslope/common"
)

func plus(a, b api.Gauss) api.Gauss { return common.Gauss(common.Complex(a) + common.Complex(b)) }

func times(a, b api.Gauss) api.Gauss { return common.Gauss(common.Complex(a) * common.Complex(b)) }

// along returns the real part of the product of a number and the conjugate of another one.
func along(a, b api.Gauss) int { return common.Along(common.Complex(a), common.Complex(b)) }

func square(g api.Gauss) int { return along(g, g) }

// quotient is a quotient of two integers, not always in lowest terms, with a denominator above 0.
type quotient struct {
	num int64
	den int64
}

func integer(n int) quotient { return quotient{int64(n), 1} }

// ratio returns a quotient in lowest terms.
func (x quotient) ratio() api.Ratio { return common.Ratio(int(x.num), int(x.den)) }

func (x quotient) times(y quotient) quotient { return quotient{x.num * y.num, x.den * y.den} }

func (x quotient) compare(y quotient) int { return cmp.Compare(x.num*y.den, y.num*x.den) }

func (x quotient) floor() int64 { return common.Floor(x.num, x.den) }

func (x quotient) nearest() int64 { return common.Nearest(x.num, x.den) }
