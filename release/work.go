package release

import (
	"cmp"
	"slices"

	"glideslope/api"
	"glideslope/common"
)

// night is the works of a night, how long they take, and the runway that they close.
type night struct {
	works  common.Set
	time   int
	runway string
}

// valued is a night with its worth.
type valued struct {
	night
	worth int
}

// permits reports whether a night of a length may have a work, too.
func (n valued) permits(w Work, length int) bool {
	isSame := len(n.works) == 0 || n.runway == w.Runway
	return isSame && n.time+w.Time <= length
}

// with returns a night with a work more, whose index is above all others.
func (n valued) with(i int, w Work) valued {
	return valued{night{n.works.With(i), n.time + w.Time, w.Runway}, n.worth + w.Worth}
}

// compare compares nights: the better one is the first one.
func (n valued) compare(o valued) int {
	return cmp.Or(cmp.Compare(o.worth, n.worth), n.works.Compare(o.works))
}

// nights returns all nights of a length.
func nights(l []Work, length int) []valued {
	all := []valued{{}}
	for i, w := range l {
		permitting := common.Where(all, func(n valued) bool { return n.permits(w, length) })
		all = append(all, common.Mapped(permitting, func(n valued) valued { return n.with(i, w) })...)
	}
	return all
}

// Night returns the best night, and its worth.
func Night(l []Work, length int) ([]int, int, api.Errno) {
	if e := common.First(CheckWorks(l), checkLength(length)); e != api.OK {
		return nil, 0, e
	}
	best := slices.MinFunc(nights(l, length), valued.compare)
	return best.works, best.worth, api.OK
}

// Bound returns a worth that no night exceeds, by a price of time.
func Bound(l []Work, length, price int) (int, api.Errno) {
	if e := common.First(CheckWorks(l), checkLength(length), common.Between(price, 0, MaxPrice)); e != api.OK {
		return 0, e
	}
	sums, most := map[string]int{}, 0
	for _, w := range l {
		sums[w.Runway] += max(0, w.Worth-price*w.Time)
		most = max(most, sums[w.Runway])
	}
	return price*length + most, api.OK
}
