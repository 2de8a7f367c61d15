package flight_test

import (
	"testing"

	"glideslope/api"
	"glideslope/flight"
)

// The tests of this file are those of P8.4 for flights.

func TestCheckFlights(t *testing.T) {
	for i, l := range [][]flight.Flight{nil, {}, flights9, manyFlights(8), {flightOf("a", 1000, 0, 100000)}, {flightOf("a", 1000, 0, 1, 2, 3, 4, 5, 99999, 100000)}, {flightOf("a", 1, 0, 1)}} {
		same(t, "CheckFlights", all(i, flight.CheckFlights(l)), all(i, api.OK))
	}
	for _, x := range badFlights() {
		same(t, "CheckFlights", all(x.x, flight.CheckFlights(x.x)), all(x.x, x.e))
	}
}

func TestStarts(t *testing.T) {
	c := flightOf("c", 5, 0, 4, 10, 15, 20, 40)
	for i, x := range []struct {
		l      []flight.Flight
		order  []int
		starts []int
		e      api.Errno
	}{
		{flights9, indices(0, 1), indices(0, 8), api.OK}, {flights9, indices(1, 0), indices(6, 2), api.OK}, {nil, nil, nil, api.OK}, // the chapter's example
		// a window is long enough, or not; it begins later, or has begun
		{[]flight.Flight{c}, indices(0), indices(10), api.OK}, {[]flight.Flight{flightOf("a", 10, 0, 10), c}, indices(0, 1), indices(0, 10), api.OK}, {[]flight.Flight{flightOf("a", 11, 0, 11), c}, indices(0, 1), indices(0, 20), api.OK}, {[]flight.Flight{flightOf("a", 35, 0, 35), c}, indices(0, 1), indices(0, 35), api.OK}, {[]flight.Flight{flightOf("a", 36, 0, 36), c}, indices(0, 1), nil, api.ErrInfeasible}, {[]flight.Flight{flightOf("a", 36, 0, 36), c}, indices(1, 0), nil, api.ErrInfeasible}, {[]flight.Flight{flightOf("a", 36, 0, 51), c}, indices(1, 0), indices(15, 10), api.OK},
		{[]flight.Flight{flightOf("a", 6, 0, 5)}, indices(0), nil, api.ErrInfeasible}, {[]flight.Flight{flightOf("a", 6, 0, 5, 6, 11, 20, 26)}, indices(0), indices(20), api.OK}, {[]flight.Flight{flightOf("a", 6, 3, 9)}, indices(0), indices(3), api.OK}, {[]flight.Flight{flightOf("a", 1, 99999, 100000)}, indices(0), indices(99999), api.OK},
		// starts stand by the indices of the flights
		{manyFlights(4), indices(2, 0, 3, 1), indices(3, 8, 0, 4), api.OK}, {manyFlights(8), indices(7, 6, 5, 4, 3, 2, 1, 0), indices(35, 33, 30, 26, 21, 15, 8, 0), api.OK},
	} {
		same(t, "Starts", all(i, started(x.l, x.order)), all(i, all(x.starts, x.e)))
	}
	r := numbers{21}
	impossible := 0
	for range 4000 {
		l := r.flights(8, 12)
		order := r.order(len(l))
		starts, end := startsOf(l, order)
		if end < 0 {
			same(t, "Starts", all(l, order, started(l, order)), all(l, order, all([]int{}, api.ErrInfeasible)))
			impossible++
			continue
		}
		same(t, "Starts", all(l, order, started(l, order)), all(l, order, all(starts, api.OK)))
	}
	same(t, "are there both", all(impossible > 300, impossible < 3700), all(true, true))
	checkErrors(t, "Starts", func(a []any) []any { return started(a[0].([]flight.Flight), a[1].([]int)) }, all([]int{}), argumentOf(flights9, badFlights()), argumentOf(indices(0, 1), badOrders()))
	// the first index decides, and of it first whether it is one
	for i, x := range []struct {
		order []int
		e     api.Errno
	}{{indices(0, 0, 3), api.ErrTwice}, {indices(0, 3, 0), api.ErrUnknown}, {indices(3, 3, 0), api.ErrUnknown}, {indices(0, 1, 1), api.ErrTwice}, {indices(0, 1), api.ErrShape}, {indices(-1, 0, 0), api.ErrUnknown}} {
		same(t, "Starts", all(i, started(manyFlights(3), x.order)), all(i, all([]int{}, x.e)))
	}
}

func TestBest(t *testing.T) {
	for i, x := range []struct {
		l     []flight.Flight
		order []int
		end   int
		bound int
		e     api.Errno
	}{
		{flights9, indices(1, 0), 9, 7, api.OK}, {nil, nil, 0, 0, api.OK}, {flights9[:1], indices(0), 3, 3, api.OK}, {flights9[1:], indices(0), 6, 6, api.OK}, // the chapter's example
		// several end at the same tick: the first one is told
		{manyFlights(3), indices(0, 1, 2), 6, 6, api.OK}, {[]flight.Flight{flightOf("a", 2, 5, 9), flightOf("b", 2, 0, 9), flightOf("c", 2, 0, 9)}, indices(1, 2, 0), 7, 7, api.OK}, {[]flight.Flight{flightOf("a", 2, 5, 9), flightOf("b", 2, 0, 9), flightOf("c", 1, 8, 9)}, indices(1, 0, 2), 9, 9, api.OK}, {[]flight.Flight{flightOf("a", 1, 0, 9), flightOf("b", 1, 0, 9), flightOf("c", 1, 8, 9)}, indices(0, 1, 2), 9, 9, api.OK},
		{manyFlights(8), indices(0, 1, 2, 3, 4, 5, 6, 7), 36, 36, api.OK},
		{[]flight.Flight{flightOf("a", 5, 90000, 100000), flightOf("b", 7, 80000, 100000)}, indices(1, 0), 90005, 90005, api.OK}, {[]flight.Flight{flightOf("a", 50, 90, 1000), flightOf("b", 70, 80, 1000)}, indices(1, 0), 200, 200, api.OK}, {[]flight.Flight{flightOf("a", 50, 90, 1000), flightOf("b", 70, 80, 149, 160, 1000)}, indices(0, 1), 230, 230, api.OK},
	} {
		same(t, "Best", all(i, best(x.l)), all(i, all(x.order, x.end, x.e)))
		same(t, "Bound", all(i, bounded(x.l)), all(i, all(x.bound, x.e)))
	}
	// each one could be flown alone, but not both; and not even alone
	same(t, "no order", all(best([]flight.Flight{flightOf("a", 3, 0, 5), flightOf("b", 3, 0, 5)}), bounded([]flight.Flight{flightOf("a", 3, 0, 5), flightOf("b", 3, 0, 5)})), all(all([]int{}, 0, api.ErrInfeasible), all(6, api.OK)))
	same(t, "no order", all(best([]flight.Flight{flightOf("a", 3, 0, 5), flightOf("b", 6, 0, 5)}), bounded([]flight.Flight{flightOf("a", 3, 0, 5), flightOf("b", 6, 0, 5)})), all(all([]int{}, 0, api.ErrInfeasible), all(0, api.ErrInfeasible)))
	// a bound may lie above all ticks
	same(t, "a late bound", bounded([]flight.Flight{flightOf("a", 1000, 99000, 100000), flightOf("b", 1000, 99000, 100000)}), all(101000, api.OK))
	checkErrors(t, "Best", func(a []any) []any { return best(a[0].([]flight.Flight)) }, all([]int{}, 0), argumentOf(flights9, badFlights()))
	checkErrors(t, "Bound", func(a []any) []any { return bounded(a[0].([]flight.Flight)) }, all(0), argumentOf(flights9, badFlights()))
}

func TestBestOfAll(t *testing.T) {
	r := numbers{23}
	impossible := 0
	for i := range 1500 {
		l := r.flights(5+i%100/99, 12) // one more now and then
		want := bestOf(l)
		same(t, "Best", all(l, best(l)), all(l, want))
		same(t, "Bound", all(l, bounded(l)), all(l, boundOf(l)))
		if shown(want[2]) == shown(api.ErrInfeasible) {
			impossible++
		}
	}
	same(t, "are there both", all(impossible > 50, impossible < 1450), all(true, true))
	// as many as there may be
	tight := manyFlights(8)
	for i := range tight {
		tight[i].Windows = []api.Span{span(5*(7-i), 5*(7-i)+12+i)}
	}
	same(t, "Best", best(tight), bestOf(tight))
}
