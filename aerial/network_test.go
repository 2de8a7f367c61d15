package aerial_test

import (
	"math"
	"slices"
	"testing"

	"glideslope/aerial"
	"glideslope/api"
)

// The tests of this file are those of P3.4: networks.

func coupler(a, b, through, cross, whole int) aerial.Coupler {
	return aerial.Coupler{A: a, B: b, Through: through, Cross: cross, Whole: whole}
}

// badCoupler is a coupler between two of three ports with its error.
type badCoupler struct {
	c aerial.Coupler
	e api.Errno
}

// badCouplers returns couplers with their errors.
func badCouplers() []badCoupler {
	return []badCoupler{
		{coupler(-1, 1, 3, 4, 5), api.ErrUnknown}, {coupler(3, 1, 3, 4, 5), api.ErrUnknown}, {coupler(0, -1, 3, 4, 5), api.ErrUnknown}, {coupler(0, 3, 3, 4, 5), api.ErrUnknown}, {coupler(3, 3, 3, 4, 5), api.ErrUnknown}, {coupler(math.MinInt, 0, 3, 4, 5), api.ErrUnknown}, {coupler(0, math.MaxInt, 3, 4, 5), api.ErrUnknown},
		{coupler(1, 1, 3, 4, 5), api.ErrTwice}, {coupler(1, 1, -1, 4, 5), api.ErrTwice}, {coupler(3, 1, -1, 4, 5), api.ErrUnknown},
		{coupler(0, 1, -1, 0, 1), api.ErrRange}, {coupler(0, 1, 14, 0, 14), api.ErrRange}, {coupler(0, 1, 0, -1, 1), api.ErrRange}, {coupler(0, 1, 0, 14, 13), api.ErrRange}, {coupler(0, 1, 0, 0, 0), api.ErrRange}, {coupler(0, 1, 5, 12, -13), api.ErrRange}, {coupler(0, 1, 0, 13, 14), api.ErrRange}, {coupler(0, 1, -3, 4, 5), api.ErrRange}, {coupler(0, 1, 1<<32, 0, 1<<32), api.ErrRange},
		{coupler(0, 1, 3, 4, 6), api.ErrForm}, {coupler(0, 1, 0, 0, 1), api.ErrForm}, {coupler(0, 1, 13, 13, 13), api.ErrForm}, {coupler(0, 1, 4, 4, 5), api.ErrForm},
	}
}

func TestCheckNetwork(t *testing.T) {
	good := coupler(0, 1, 3, 4, 5)
	three := []complex128{1, 2i, 100 - 100i}
	for i, x := range []struct {
		ports   []complex128
		network []aerial.Coupler
		e       api.Errno
	}{
		{three, nil, api.OK}, {three, []aerial.Coupler{good, coupler(2, 0, 12, 5, 13), coupler(1, 2, 0, 13, 13), coupler(2, 1, 1, 0, 1), good}, api.OK}, {[]complex128{1}, nil, api.OK}, {make([]complex128, 8), []aerial.Coupler{coupler(7, 0, 8, 6, 10)}, api.OK},
		{nil, nil, api.ErrEmpty}, {nil, make([]aerial.Coupler, 6), api.ErrEmpty}, {make([]complex128, 9), nil, api.ErrMany}, {[]complex128{8: complex(nan, 0)}, nil, api.ErrMany},
		{[]complex128{1, 101, complex(nan, 0)}, make([]aerial.Coupler, 6), api.ErrRange}, {[]complex128{1, complex(nan, 0), 101}, make([]aerial.Coupler, 6), api.ErrForm},
		{three, slices.Repeat([]aerial.Coupler{good}, 6), api.ErrMany}, {three, make([]aerial.Coupler, 6), api.ErrMany}, {three, slices.Repeat([]aerial.Coupler{good}, 5), api.OK},
		{three, []aerial.Coupler{good, coupler(1, 1, 3, 4, 5), coupler(3, 1, 3, 4, 5)}, api.ErrTwice}, {three, []aerial.Coupler{coupler(1, 2, 3, 4, 6), coupler(3, 1, 3, 4, 5)}, api.ErrForm},
		{[]complex128{1}, []aerial.Coupler{good}, api.ErrUnknown},
	} {
		same(t, "CheckNetwork", all(i, aerial.CheckNetwork(x.ports, x.network)), all(i, x.e))
		_, _, e := aerial.Led(x.ports, x.network)
		same(t, "error of Led", all(i, e), all(i, x.e))
	}
	for i, x := range badCouplers() {
		network := []aerial.Coupler{good, x.c}
		same(t, "CheckNetwork with errors of a coupler", all(i, aerial.CheckNetwork(three, network)), all(i, x.e))
		ports, scale, e := aerial.Led(three, network)
		same(t, "Led with errors of a coupler", all(i, ports, scale, e), all(i, []complex128{}, 0, x.e))
	}
	for i, x := range badNumbers(100) {
		ports := []complex128{1, 2, x.x}
		same(t, "CheckNetwork with errors of a port", all(i, aerial.CheckNetwork(ports, []aerial.Coupler{{}})), all(i, x.e))
		out, scale, e := aerial.Led(ports, []aerial.Coupler{{}})
		same(t, "Led with errors of a port", all(i, out, scale, e), all(i, []complex128{}, 0, x.e))
	}
}

func TestLed(t *testing.T) {
	c := coupler(0, 1, 3, 4, 5)
	for i, x := range []struct {
		ports   []complex128
		network []aerial.Coupler
		out     []complex128
		scale   int
	}{
		{[]complex128{1, 0}, []aerial.Coupler{c}, []complex128{3, 4i}, 5}, {[]complex128{1, 0}, []aerial.Coupler{c, c}, []complex128{-7, 24i}, 25},
		{[]complex128{0, 1}, []aerial.Coupler{c}, []complex128{4i, 3}, 5}, {[]complex128{1, 0}, []aerial.Coupler{coupler(1, 0, 3, 4, 5)}, []complex128{3, 4i}, 5},
		{[]complex128{1, 2i, 3, -4i}, []aerial.Coupler{coupler(3, 1, 12, 5, 13)}, []complex128{13, 20 + 24i, 39, -10 - 48i}, 13},
		{[]complex128{7, -1 - 1i}, nil, []complex128{7, -1 - 1i}, 1}, {[]complex128{5i}, nil, []complex128{5i}, 1},
		{[]complex128{2, 1i}, []aerial.Coupler{coupler(0, 1, 0, 1, 1)}, []complex128{-1, 2i}, 1}, {[]complex128{2, 1i}, []aerial.Coupler{coupler(0, 1, 2, 0, 2)}, []complex128{4, 2i}, 2},
		{[]complex128{100, 100i, -100}, slices.Repeat([]aerial.Coupler{coupler(0, 1, 13, 0, 13)}, 5), []complex128{37129300, 37129300i, -37129300}, 371293},
		{[]complex128{0, complex(math.Copysign(0, -1), 0)}, []aerial.Coupler{c}, []complex128{0, 0}, 5},
	} {
		out, scale, e := aerial.Led(x.ports, x.network)
		same(t, "Led", all(i, out, scale, e), all(i, x.out, x.scale, api.OK))
	}
	r := numbers{19}
	for range 1000 {
		ports, network := r.ports(), []aerial.Coupler(nil)
		if len(ports) > 1 {
			network = r.network(len(ports))
		}
		want, whole := ledOf(ports, network)
		out, scale, e := aerial.Led(ports, network)
		same(t, "Led", all(ports, network, out, scale, e), all(ports, network, want, whole, api.OK))
	}
}

// ports returns at most eight ports.
func (r *numbers) ports() []complex128 {
	var l []complex128
	for range 1 + r.below(8) {
		l = append(l, r.feed(100))
	}
	return l
}

// network returns at most five couplers between n ports.
func (r *numbers) network(n int) []aerial.Coupler {
	var l []aerial.Coupler
	for range r.below(6) {
		a, d := r.below(n), r.direction()
		l = append(l, coupler(a, (a+1+r.below(n-1))%n, absolute(d.To.Re), absolute(d.To.Im), d.Whole))
	}
	return l
}

// ledOf is the ports behind a network, and its scale.
func ledOf(ports []complex128, network []aerial.Coupler) ([]complex128, int) {
	scale := 1
	var l []api.Gauss
	for _, x := range ports {
		l = append(l, gaussOf(x))
	}
	for _, c := range network {
		scale *= c.Whole
		a, b := l[c.A], l[c.B]
		for i := range l {
			l[i] = times(l[i], gauss(c.Whole, 0))
		}
		l[c.A] = plus(times(gauss(c.Through, 0), a), times(gauss(0, c.Cross), b))
		l[c.B] = plus(times(gauss(0, c.Cross), a), times(gauss(c.Through, 0), b))
	}
	var out []complex128
	for _, g := range l {
		out = append(out, number(g))
	}
	return out, scale
}
