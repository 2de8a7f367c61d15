package area

import (
	"cmp"
	"slices"

	"glideslope/api"
	"glideslope/common"
)

// spacing is the ticks between two flights, by the kind of the one before and of the one after it.
type spacing = [MaxKind + 1][MaxKind + 1]int

// CheckSpacing returns the first error of a spacing, or OK.
func CheckSpacing(table [3][3]int) api.Errno {
	limited := changed(table, func(ticks int) int { return max(0, min(MaxTicks, ticks)) })
	return common.Failed(limited != table, api.ErrRange)
}

// changed returns a spacing with what a function makes of all ticks.
func changed(table spacing, f func(ticks int) int) spacing {
	for i := range len(table) {
		for j := range len(table) {
			table[i][j] = f(table[i][j])
		}
	}
	return table
}

// leastOf returns the least ticks of a spacing.
func leastOf(table spacing) int {
	return slices.Min(common.Mapped(table[:], func(row [3]int) int { return slices.Min(row[:]) }))
}

// compare compares flights by their ready ticks.
func (f Flight) compare(o Flight) int { return cmp.Compare(f.Ready, o.Ready) }

// timed is a flight with its time.
type timed struct {
	Flight
	time int
}

// delay returns the delay of a flight.
func (t timed) delay() int { return t.time - t.Ready }

// placed returns flights, each one after the one before it, with their times.
func placed(l []Flight, table spacing) []timed {
	out := make([]timed, len(l))
	for i, f := range l {
		time := f.Ready
		if i > 0 {
			before := out[i-1]
			time = max(time, before.time+table[before.Kind][f.Kind])
		}
		out[i] = timed{f, time}
	}
	return out
}

// delayOf returns the delay of flights, each one after the one before it.
func delayOf(l []Flight, table spacing) int {
	sum := 0
	for _, t := range placed(l, table) {
		sum += t.delay()
	}
	return sum
}

// inOrder returns flights in an order.
func inOrder(l []Flight, order []int) []Flight {
	return common.Mapped(order, func(i int) Flight { return l[i] })
}

// checkOrder returns the error of an order of so many flights, or OK. The chapter names ErrTwice behind ErrUnknown, and not for the first index with an error: an index that is none decides also after one that occurs twice.
func checkOrder(order []int, flights int) api.Errno {
	if len(order) != flights {
		return api.ErrShape
	}
	unknown := common.Mapped(order, func(i int) api.Errno { return common.CheckIndex(i, flights) })
	return common.First(
		common.First(unknown...),
		common.Failed(hasTwice(order), api.ErrTwice))
}

// hasTwice reports whether an index occurs twice.
func hasTwice(order []int) bool {
	for at, i := range order {
		if slices.Contains(order[:at], i) {
			return true
		}
	}
	return false
}

// checkSequence returns the first error of flights, a spacing and an order, or OK.
func checkSequence(l []Flight, table spacing, order []int) api.Errno {
	return common.First(CheckFlights(l), CheckSpacing(table), checkOrder(order, len(l)))
}

// Times returns the times of an order.
func Times(l []Flight, table [3][3]int, order []int) ([]int, api.Errno) {
	if e := checkSequence(l, table, order); e != api.OK {
		return nil, e
	}
	return common.Mapped(placed(inOrder(l, order), table), func(t timed) int { return t.time }), api.OK
}

// Delay returns the delay of an order.
func Delay(l []Flight, table [3][3]int, order []int) (int, api.Errno) {
	if e := checkSequence(l, table, order); e != api.OK {
		return 0, e
	}
	return delayOf(inOrder(l, order), table), api.OK
}

// Best returns the best order, and its delay.
func Best(l []Flight, table [3][3]int) ([]int, int, api.Errno) {
	if e := common.First(CheckFlights(l), CheckSpacing(table)); e != api.OK {
		return nil, 0, e
	}
	var best []int
	delay := 0
	for order := range common.Orders(len(l)) {
		d := delayOf(inOrder(l, order), table)
		if best == nil || d < delay {
			best, delay = order, d
		}
	}
	return best, delay, api.OK
}

// Bound returns the bound of flights.
func Bound(l []Flight, table [3][3]int) (int, api.Errno) {
	if e := common.First(CheckFlights(l), CheckSpacing(table)); e != api.OK {
		return 0, e
	}
	byReady := slices.Clone(l)
	slices.SortFunc(byReady, Flight.compare)
	least := leastOf(table)
	return delayOf(byReady, changed(table, func(int) int { return least })), api.OK
}
