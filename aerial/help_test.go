package aerial_test

import (
	"fmt"
	"math"
	"math/big"
	"slices"
	"strings"
	"testing"

	"glideslope/aerial"
	"glideslope/api"
)

// shown writes values so that all that is different looks different, but for nil and empty lists.
func shown(l ...any) string {
	return strings.ReplaceAll(fmt.Sprintf("%#v", l), "(nil)", "{}")
}

// same compares results with the expected ones.
func same(t *testing.T, what string, got, want []any) {
	t.Helper()
	if g, w := shown(got...), shown(want...); g != w {
		t.Errorf("%s:\n got %s\nwant %s", what, g, w)
	}
}

// all is its arguments as a list: the results of a call.
func all(l ...any) []any { return l }

// noPanic fails the test if a function panics.
func noPanic(t *testing.T, what string, f func()) {
	t.Helper()
	defer func() {
		if x := recover(); x != nil {
			t.Errorf("%s panics: %v", what, x)
		}
	}()
	f()
}

func gauss(re, im int) api.Gauss { return api.Gauss{Re: re, Im: im} }

func span(from, to int) api.Span { return api.Span{From: from, To: to} }

func interval(low, high int) api.Interval { return api.Interval{Low: low, High: high} }

// number returns a complex integer as a complex number.
func number(g api.Gauss) complex128 { return complex(float64(g.Re), float64(g.Im)) }

func direction(re, im, whole int) aerial.Direction {
	return aerial.Direction{To: gauss(re, im), Whole: whole}
}

// The directions L, S and R of the chapter's examples.
var (
	left     = direction(4, -3, 5)
	straight = direction(1, 0, 1)
	right    = direction(4, 3, 5)
)

// example returns the array A of the chapter's examples.
func example() []aerial.Aerial {
	return []aerial.Aerial{{At: -1, Side: -2i}, {At: 0, Carrier: 10}, {At: 1, Side: 2i}}
}

// one returns the array of an aerial at 0.
func one(carrier, side complex128) []aerial.Aerial {
	return []aerial.Aerial{{Carrier: carrier, Side: side}}
}

// scan returns the scan L, S, R of the chapter's examples.
func scan() []aerial.Direction { return []aerial.Direction{left, straight, right} }

// numbers is a row of numbers that look random, and are the same in each run.
type numbers struct{ x uint64 }

func (r *numbers) below(n int) int {
	r.x = r.x*6364136223846793005 + 1442695040888963407
	return int((r.x >> 33) % uint64(n))
}

// within returns a number from -most to most.
func (r *numbers) within(most int) int { return r.below(2*most+1) - most }

// feed returns a complex integer whose parts are at most a number.
func (r *numbers) feed(most int) complex128 { return number(gauss(r.within(most), r.within(most))) }

// array returns at most n aerials with feeds whose parts are at most a number.
func (r *numbers) array(n, most int) []aerial.Aerial {
	at := []int{-4, -3, -2, -1, 0, 1, 2, 3, 4}
	for i := range at {
		j := i + r.below(len(at)-i)
		at[i], at[j] = at[j], at[i]
	}
	var l []aerial.Aerial
	for _, x := range at[:1+r.below(n)] {
		l = append(l, aerial.Aerial{At: x, Carrier: r.feed(most), Side: r.feed(most)})
	}
	return l
}

// sized returns an array of any size, with small or with large feeds.
func (r *numbers) sized() []aerial.Aerial { return r.array(8, []int{1, 3, 20, 100}[r.below(4)]) }

// direction returns any direction.
func (r *numbers) direction() aerial.Direction {
	l := directions()
	return l[r.below(len(l))]
}

// scan returns a scan of any directions.
func (r *numbers) scan() []aerial.Direction {
	var l []aerial.Direction
	for range 2 + r.below(31) {
		l = append(l, r.direction())
	}
	return l
}

// directions returns all directions that there are.
func directions() []aerial.Direction {
	var l []aerial.Direction
	for whole := 1; whole <= 13; whole++ {
		for re := -13; re <= 13; re++ {
			for im := -13; im <= 13; im++ {
				if re*re+im*im == whole*whole {
					l = append(l, direction(re, im, whole))
				}
			}
		}
	}
	return l
}

// The following functions are the definitions of the chapter, with integers, and with ratios of any size.

func times(a, b api.Gauss) api.Gauss { return gauss(a.Re*b.Re-a.Im*b.Im, a.Re*b.Im+a.Im*b.Re) }

func plus(a, b api.Gauss) api.Gauss { return gauss(a.Re+b.Re, a.Im+b.Im) }

// gaussOf is the complex integer of a feed.
func gaussOf(x complex128) api.Gauss { return gauss(int(real(x)), int(imag(x))) }

func squareOf(g api.Gauss) int { return g.Re*g.Re + g.Im*g.Im }

func absolute(n int) int { return max(n, -n) }

// phaseOf is the phase of a distance.
func phaseOf(d aerial.Direction, at int) api.Gauss {
	p := gauss(1, 0)
	for range absolute(at) {
		if at < 0 {
			p = times(p, gauss(d.To.Re, -d.To.Im))
		} else {
			p = times(p, d.To)
		}
	}
	for range 4 - absolute(at) {
		p = gauss(p.Re*d.Whole, p.Im*d.Whole)
	}
	return p
}

// fieldsOf is the carrier field and the side field of an array.
func fieldsOf(l []aerial.Aerial, d aerial.Direction) (carrier, side api.Gauss) {
	for _, a := range l {
		p := phaseOf(d, a.At)
		carrier, side = plus(carrier, times(gaussOf(a.Carrier), p)), plus(side, times(gaussOf(a.Side), p))
	}
	return carrier, side
}

func ratOf(num, den int) *big.Rat { return big.NewRat(int64(num), int64(den)) }

// downOf is a ratio rounded down.
func downOf(x *big.Rat) int {
	return int(new(big.Int).Div(x.Num(), x.Denom()).Int64()) // Euclid's division rounds down, for the denominator is above 0
}

// upOf is a ratio rounded up.
func upOf(x *big.Rat) int { return -downOf(new(big.Rat).Neg(x)) }

// nearestOf is the integer nearest to a ratio, from the middle the greater one.
func nearestOf(x *big.Rat) int { return downOf(new(big.Rat).Add(x, ratOf(1, 2))) }

func heldOf(n int) int { return max(-1000000, min(1000000, n)) }

// needleOf is the needle at a direction, and whether there is one.
func needleOf(l []aerial.Aerial, d aerial.Direction) (int, bool) {
	c, s := fieldsOf(l, d)
	if c == gauss(0, 0) {
		return 0, false
	}
	x := ratOf(s.Re*c.Re+s.Im*c.Im, squareOf(c))
	return heldOf(nearestOf(x.Mul(x, ratOf(1000, 1)))), true
}

// boundsOf is the bounds of a needle with an error, and whether there are any.
func boundsOf(l []aerial.Aerial, d aerial.Direction, err int) (api.Interval, bool) {
	c, s := fieldsOf(l, d)
	off := 0
	for _, a := range l {
		p := phaseOf(d, a.At)
		off += err * (absolute(p.Re) + absolute(p.Im))
	}
	var low, high, least, most int
	for _, x := range [][2]int{{c.Re, s.Re}, {c.Im, s.Im}} {
		var products, squares []int
		for i := range 4 {
			a, b := x[0]+off*(i%2*2-1), x[1]+off*(i/2*2-1)
			products, squares = append(products, a*b), append(squares, a*a)
		}
		if absolute(x[0]) <= off {
			squares = append(squares, 0)
		}
		low, high = low+slices.Min(products), high+slices.Max(products)
		least, most = least+slices.Min(squares), most+slices.Max(squares)
	}
	if least == 0 {
		return api.Interval{}, false
	}
	out := interval(math.MaxInt, math.MinInt)
	for _, p := range []int{low, high} {
		for _, q := range []int{least, most} {
			x := new(big.Rat).Mul(ratOf(p, q), ratOf(1000, 1))
			out.Low, out.High = min(out.Low, downOf(x)), max(out.High, upOf(x))
		}
	}
	return interval(heldOf(out.Low), heldOf(out.High)), true
}

// crossingsOf is all crossings of needles.
func crossingsOf(l []int) []aerial.Crossing {
	var out []aerial.Crossing
	for i, n := range l {
		if n == 0 {
			out = append(out, aerial.Crossing{From: i, To: i})
		}
		if i+1 < len(l) && (n < 0 && l[i+1] > 0 || n > 0 && l[i+1] < 0) {
			out = append(out, aerial.Crossing{From: i, To: i + 1})
		}
	}
	return out
}

// The following functions return arguments with their errors.

var (
	nan = math.NaN()
	inf = math.Inf(1)
)

// badNumber is a complex number, and its error with a limit.
type badNumber struct {
	x complex128
	e api.Errno
}

// badNumbers returns complex numbers with their errors with a limit.
func badNumbers(most float64) []badNumber {
	return []badNumber{
		{complex(nan, 0), api.ErrForm}, {complex(0, nan), api.ErrForm}, {complex(inf, 0), api.ErrForm}, {complex(-inf, 0), api.ErrForm}, {complex(0, inf), api.ErrForm}, {complex(0, -inf), api.ErrForm},
		{complex(most+1, 0), api.ErrRange}, {complex(-most-1, 0), api.ErrRange}, {complex(0, most+1), api.ErrRange}, {complex(0, -most-1), api.ErrRange},
		{0.5, api.ErrRange}, {-0.5i, api.ErrRange}, {complex(math.SmallestNonzeroFloat64, 0), api.ErrRange}, {complex(0, -math.MaxFloat64), api.ErrRange}, {complex(most+0.5, 0), api.ErrRange},
		{complex(0.5, nan), api.ErrForm}, {complex(most+1, inf), api.ErrForm}, {complex(nan, most+1), api.ErrForm},
	}
}

// badArray is an array with its error.
type badArray struct {
	l []aerial.Aerial
	e api.Errno
}

// badArrays returns arrays with their errors.
func badArrays() []badArray {
	many := make([]aerial.Aerial, 9)
	many[0].At = 99 // comes after ErrMany
	out := []badArray{
		{nil, api.ErrEmpty}, {[]aerial.Aerial{}, api.ErrEmpty}, {many, api.ErrMany},
		{[]aerial.Aerial{{At: 5}}, api.ErrRange}, {[]aerial.Aerial{{At: -5}}, api.ErrRange}, {[]aerial.Aerial{{At: math.MinInt}}, api.ErrRange}, {[]aerial.Aerial{{At: math.MaxInt}}, api.ErrRange},
		{[]aerial.Aerial{{At: 1}, {At: 2}, {At: 1}}, api.ErrTwice},
		// the first aerial with an error decides, with its first error
		{[]aerial.Aerial{{At: 1}, {At: 1, Carrier: complex(nan, 0)}}, api.ErrTwice}, {[]aerial.Aerial{{At: 1, Carrier: complex(nan, 0)}, {At: 1}}, api.ErrForm},
		{[]aerial.Aerial{{At: 5}, {At: 5}}, api.ErrRange}, {[]aerial.Aerial{{At: 1}, {At: 5}, {At: 1}}, api.ErrRange}, {[]aerial.Aerial{{At: 1}, {At: 1}, {At: 5}}, api.ErrTwice},
		{[]aerial.Aerial{{At: 5, Carrier: complex(nan, 0)}}, api.ErrRange}, {one(0.5, complex(nan, 0)), api.ErrRange}, {one(complex(nan, 0), 0.5), api.ErrForm},
		{[]aerial.Aerial{{At: 0, Side: 101}, {At: 1, Carrier: complex(nan, 0)}}, api.ErrRange},
	}
	for _, x := range badNumbers(100) {
		out = append(out, badArray{one(x.x, 1), x.e}, badArray{one(1, x.x), x.e})
	}
	return out
}

// badDirection is a direction with its error.
type badDirection struct {
	d aerial.Direction
	e api.Errno
}

// badDirections returns directions with their errors.
func badDirections() []badDirection {
	return []badDirection{
		{direction(0, 0, 0), api.ErrRange}, {direction(1, 0, -1), api.ErrRange}, {direction(14, 0, 14), api.ErrRange}, {direction(0, 0, math.MinInt), api.ErrRange}, {direction(0, 0, 1<<32), api.ErrRange},
		{direction(14, 0, 13), api.ErrRange}, {direction(-14, 0, 13), api.ErrRange}, {direction(0, 14, 13), api.ErrRange}, {direction(0, -14, 13), api.ErrRange}, {direction(1<<32, 1, 1), api.ErrRange}, {direction(math.MinInt, math.MaxInt, 1), api.ErrRange},
		{direction(0, 0, 1), api.ErrForm}, {direction(1, 1, 1), api.ErrForm}, {direction(4, 3, 4), api.ErrForm}, {direction(5, 3, 5), api.ErrForm}, {direction(13, 13, 13), api.ErrForm}, {direction(1, 0, 2), api.ErrForm},
	}
}

// badScan is a scan with its error.
type badScan struct {
	l []aerial.Direction
	e api.Errno
}

// badScans returns scans with their errors.
func badScans() []badScan {
	out := []badScan{
		{nil, api.ErrShort}, {[]aerial.Direction{right}, api.ErrShort}, {[]aerial.Direction{{}}, api.ErrShort},
		{slices.Repeat([]aerial.Direction{right}, 33), api.ErrMany}, {make([]aerial.Direction, 33), api.ErrMany},
		{[]aerial.Direction{direction(1, 1, 1), {}}, api.ErrForm}, {[]aerial.Direction{{}, direction(1, 1, 1)}, api.ErrRange},
	}
	for _, x := range badDirections() {
		out = append(out, badScan{[]aerial.Direction{right, x.d, left}, x.e}, badScan{[]aerial.Direction{x.d, x.d}, x.e})
	}
	return out
}
