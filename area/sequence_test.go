package area_test

import (
	"testing"

	"glideslope/api"
	"glideslope/area"
)

// The tests of this file are those of P5.3.

func timed(l []area.Flight, table spacing, order []int) []any {
	times, e := area.Times(l, table, order)
	return all(times, e)
}

func delayed(l []area.Flight, table spacing, order []int) []any {
	n, e := area.Delay(l, table, order)
	return all(n, e)
}

func best(l []area.Flight, table spacing) []any {
	order, n, e := area.Best(l, table)
	return all(order, n, e)
}

func bound(l []area.Flight, table spacing) []any {
	n, e := area.Bound(l, table)
	return all(n, e)
}

func TestCheckFlights(t *testing.T) {
	for _, l := range [][]area.Flight{flights, manyFlights(1), manyFlights(8), {{Name: "abcdefghijklmnopqrstuvwx", Kind: 2, Ready: 100000000}, {Name: "A"}}} {
		same(t, "CheckFlights", all(l, area.CheckFlights(l)), all(l, api.OK))
	}
	for _, x := range badFlightLists() {
		same(t, "CheckFlights", all(x.x, area.CheckFlights(x.x)), all(x.x, x.e))
	}
}

func TestCheckSpacing(t *testing.T) {
	for _, x := range []spacing{table, {}, even(10000), {{0, 10000, 0}, {10000, 0, 1}, {2, 9999, 10000}}} {
		same(t, "CheckSpacing", all(x, area.CheckSpacing(x)), all(x, api.OK))
	}
	for _, x := range badSpacings() {
		same(t, "CheckSpacing", all(x.x, area.CheckSpacing(x.x)), all(x.x, x.e))
	}
}

func TestTimes(t *testing.T) {
	for _, x := range []struct {
		order, times []int
		delay        int
	}{
		{[]int{0, 1, 2}, []int{0, 5, 7}, 9}, {[]int{0, 2, 1}, []int{0, 3, 8}, 8}, {[]int{1, 0, 2}, []int{1, 3, 6}, 7}, {[]int{1, 2, 0}, []int{1, 3, 6}, 7}, {[]int{2, 0, 1}, []int{2, 5, 10}, 14}, {[]int{2, 1, 0}, []int{2, 7, 9}, 15},
	} {
		same(t, "Times", all(x.order, timed(flights, table, x.order)), all(x.order, all(x.times, api.OK)))
		same(t, "Delay", all(x.order, delayed(flights, table, x.order)), all(x.order, all(x.delay, api.OK)))
	}
	late := []area.Flight{{Name: "x", Kind: 2, Ready: 100000000}, {Name: "y", Kind: 1, Ready: 0}}
	same(t, "Times after the last tick", all(timed(late, even(10000), []int{0, 1}), delayed(late, even(10000), []int{0, 1})), all(all([]int{100000000, 100010000}, api.OK), all(100010000, api.OK)))
	same(t, "Times with gaps", all(timed(late, even(10000), []int{1, 0}), delayed(late, even(10000), []int{1, 0})), all(all([]int{0, 100000000}, api.OK), all(0, api.OK)))
	same(t, "Times of one", all(timed(late[:1], table, []int{0}), delayed(late[:1], table, []int{0})), all(all([]int{100000000}, api.OK), all(0, api.OK)))
	r := numbers{21}
	for range 2000 {
		l, x := r.flights(5), r.spacing()
		orders := ordersOf(len(l))
		order := orders[r.below(len(orders))]
		same(t, "Times", all(l, x, order, timed(l, x, order)), all(l, x, order, all(timesOf(l, x, order), api.OK)))
		same(t, "Delay", all(l, x, order, delayed(l, x, order)), all(l, x, order, all(delayOf(l, x, order), api.OK)))
	}
}

func TestBest(t *testing.T) {
	same(t, "Best", best(flights, table), all([]int{1, 0, 2}, 7, api.OK))
	same(t, "Best of one", best(flights[1:2], table), all([]int{0}, 0, api.OK))
	same(t, "Best without spacing", best(flights, spacing{}), all([]int{0, 1, 2}, 0, api.OK))
	same(t, "Best of many alike", best(make8(0), even(1)), all([]int{0, 1, 2, 3, 4, 5, 6, 7}, 28, api.OK))
	same(t, "Best of kinds in turn", best(make8(2), spacing{{9, 1, 9}, {1, 9, 9}, {9, 9, 9}}), all([]int{0, 1, 2, 3, 4, 5, 6, 7}, 28, api.OK))
	same(t, "Best of kinds one after the other", best(make8(2), spacing{{1, 9, 9}, {9, 1, 9}, {9, 9, 9}}), all([]int{0, 2, 4, 6, 1, 3, 5, 7}, 60, api.OK))
	back := []area.Flight{{Name: "c", Ready: 9}, {Name: "b", Ready: 5}, {Name: "a", Ready: 1}}
	same(t, "Best of the last one first", best(back, even(4)), all([]int{2, 1, 0}, 0, api.OK))
}

// make8 returns eight flights that are ready at once, of so many kinds in turn.
func make8(kinds int) []area.Flight {
	var l []area.Flight
	for i := range 8 {
		l = append(l, area.Flight{Name: nameOf(i), Kind: i % max(1, kinds)})
	}
	return l
}

func TestBestAgainstDefinition(t *testing.T) {
	r := numbers{22}
	for i := range 600 {
		n := 5
		if i%100 == 0 {
			n = 8
		}
		l, x := r.flights(n), r.spacing()
		order, delay := bestOf(l, x)
		same(t, "Best", all(l, x, best(l, x)), all(l, x, all(order, delay, api.OK)))
	}
}

func TestBound(t *testing.T) {
	same(t, "Bound", bound(flights, table), all(3, api.OK))
	back := []area.Flight{{Name: "c", Ready: 2}, {Name: "b", Ready: 1}, {Name: "a", Ready: 0}}
	same(t, "Bound of another order", bound(back, table), all(3, api.OK))
	same(t, "Bound of one", bound(back[:1], table), all(0, api.OK))
	same(t, "Bound of far ones", bound([]area.Flight{{Name: "c", Ready: 100000000}, {Name: "b"}}, even(10000)), all(0, api.OK))
	// the least spacing counts, also if no flight is of its kinds
	for i := range 9 {
		x := even(7)
		x[i/3][i%3] = 2
		same(t, "Bound by the least spacing", all(i, bound(flights, x)), all(i, all(3, api.OK)))
	}
	same(t, "Bound of many", bound(make8(2), even(10000)), all(280000, api.OK))
	r := numbers{23}
	for range 3000 {
		l, x := r.flights(8), r.spacing()
		same(t, "Bound", all(l, x, bound(l, x)), all(l, x, all(boundOf(l, x), api.OK)))
	}
}

func TestSequenceErrors(t *testing.T) {
	someFlights, aSpacing, anOrder := argumentOf(flights, badFlightLists()), argumentOf(table, badSpacings()), argumentOf([]int{1, 0, 2}, badOrders())
	checkErrors(t, "Times", func(a []any) []any { return timed(a[0].([]area.Flight), a[1].(spacing), a[2].([]int)) }, all([]int{}), someFlights, aSpacing, anOrder)
	checkErrors(t, "Delay", func(a []any) []any { return delayed(a[0].([]area.Flight), a[1].(spacing), a[2].([]int)) }, all(0), someFlights, aSpacing, anOrder)
	checkErrors(t, "Best", func(a []any) []any { return best(a[0].([]area.Flight), a[1].(spacing)) }, all([]int{}, 0), someFlights, aSpacing)
	checkErrors(t, "Bound", func(a []any) []any { return bound(a[0].([]area.Flight), a[1].(spacing)) }, all(0), someFlights, aSpacing)
}
