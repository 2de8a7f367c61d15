package flight

import (
	"cmp"
	"iter"
	"slices"

	"glideslope/api"
	"glideslope/common"
)

// placed is an order of flights with the start of each one.
type placed struct {
	order  []int
	starts []int
}

// plan is an order with its end.
type plan struct {
	placed
	end int
}

// compare compares orders: the better one ends earlier, or at the same tick and is the first one.
func (p plan) compare(o plan) int {
	return cmp.Or(cmp.Compare(p.end, o.end), slices.Compare(p.order, o.order))
}

// planned returns flights in an order, and whether it is possible.
func planned(l []Flight, order []int) (plan, bool) {
	p := plan{placed: placed{order, make([]int, len(l))}}
flights:
	for _, i := range order {
		for _, w := range l[i].Windows {
			start := max(p.end, w.From)
			if over := start + l[i].Time; over <= w.To {
				p.starts[i], p.end = start, over
				continue flights
			}
		}
		return plan{}, false
	}
	return p, true
}

// alone returns a flight without others, and whether it is possible.
func (f Flight) alone() (plan, bool) { return planned([]Flight{f}, []int{0}) }

// plans visits all orders of flights that are possible.
func plans(l []Flight) iter.Seq[plan] {
	return func(yield func(plan) bool) {
		for order := range common.Orders(len(l)) {
			if p, is := planned(l, order); is && !yield(p) {
				return
			}
		}
	}
}

// least returns the least element by a comparison, and whether there is one.
func least[T any](l iter.Seq[T], compare func(a, b T) int) (T, bool) {
	var out T
	is := false
	for x := range l {
		if !is || compare(x, out) < 0 {
			out, is = x, true
		}
	}
	return out, is
}

// Starts returns the starts of flights in an order.
func Starts(l []Flight, order []int) ([]int, api.Errno) {
	if e := common.First(CheckFlights(l), checkOrder(order, len(l))); e != api.OK {
		return nil, e
	}
	p, is := planned(l, order)
	return p.starts, common.Failed(!is, api.ErrInfeasible)
}

// Best returns the best order, and its end.
func Best(l []Flight) ([]int, int, api.Errno) {
	if e := CheckFlights(l); e != api.OK {
		return nil, 0, e
	}
	p, is := least(plans(l), plan.compare)
	return p.order, p.end, common.Failed(!is, api.ErrInfeasible)
}

// Bound returns the bound of flights.
func Bound(l []Flight) (int, api.Errno) {
	if e := CheckFlights(l); e != api.OK {
		return 0, e
	}
	over, start, sum := 0, 0, 0
	for i, f := range l {
		p, is := f.alone()
		if !is {
			return 0, api.ErrInfeasible
		}
		if i == 0 || p.starts[0] < start {
			start = p.starts[0]
		}
		over = max(over, p.end)
		sum += f.Time
	}
	return max(over, start+sum), api.OK
}
