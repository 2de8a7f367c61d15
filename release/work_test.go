package release_test

import (
	"testing"

	"glideslope/api"
	"glideslope/release"
)

// The tests of this file are those of P9.3 for works.

func TestCheckWorks(t *testing.T) {
	for i, l := range [][]release.Work{works7, nil, manyWorks(8), {work("a", "a", 1, 0), work("b", "a", 1000, 1000000)}, {work("a", "b", 1, 0), work("b", "a", 1, 0), work("A", "a", 1, 0)}} {
		same(t, "CheckWorks", all(i, release.CheckWorks(l)), all(i, api.OK))
	}
	checkErrors(t, "CheckWorks", func(a []any) []any { return all(release.CheckWorks(a[0].([]release.Work))) }, nil, argumentOf(works7, badWorks()))
}

func TestNight(t *testing.T) {
	for i, x := range []struct {
		l      []release.Work
		length int
		works  []int
		worth  int
	}{
		{works7, 7, indices(0, 1), 90}, {works7, 6, indices(2), 60}, // the chapter's example
		{works7, 5, indices(2), 60}, {works7, 4, indices(1), 50}, {works7, 3, indices(0), 40}, {works7, 2, nil, 0}, {works7, 0, nil, 0}, {works7, 1000, indices(0, 1), 90}, {nil, 1000, nil, 0}, {nil, 0, nil, 0},
		// of the same worth the fewest works, of these the first one
		{[]release.Work{work("a", "r", 1, 0), work("b", "s", 1, 0)}, 10, nil, 0}, {[]release.Work{work("a", "r", 1, 5), work("b", "r", 1, 0)}, 10, indices(0), 5}, {[]release.Work{work("a", "r", 1, 0), work("b", "r", 1, 5)}, 10, indices(1), 5}, {[]release.Work{work("a", "r", 1, 2), work("b", "r", 1, 3), work("c", "s", 9, 5)}, 10, indices(2), 5}, {[]release.Work{work("a", "r", 1, 2), work("b", "r", 1, 3), work("c", "r", 9, 5)}, 9, indices(2), 5},
		{[]release.Work{work("a", "r", 1, 5), work("b", "s", 1, 5), work("c", "r", 1, 5)}, 1, indices(0), 5}, {[]release.Work{work("a", "s", 2, 5), work("b", "r", 1, 5), work("c", "s", 1, 5)}, 1, indices(1), 5},
		{[]release.Work{work("a", "r", 1, 1), work("b", "r", 1, 2), work("c", "r", 1, 2), work("d", "r", 1, 1)}, 2, indices(1, 2), 4}, {[]release.Work{work("a", "r", 1, 1), work("b", "r", 1, 3), work("c", "r", 1, 3), work("d", "r", 1, 5)}, 2, indices(1, 3), 8}, {[]release.Work{work("a", "r", 2, 4), work("b", "s", 1, 3), work("c", "s", 1, 1), work("d", "r", 2, 4)}, 3, indices(0), 4},
		// works of other runways do not count together
		{[]release.Work{work("a", "r", 1, 5), work("b", "s", 1, 6), work("c", "r", 1, 5)}, 9, indices(0, 2), 10}, {[]release.Work{work("a", "r", 1, 5), work("b", "R", 1, 5)}, 9, indices(0), 5}, {[]release.Work{work("a", "r", 1, 5), work("b", "s", 1, 6), work("c", "t", 1, 7)}, 9, indices(2), 7},
		{[]release.Work{work("a", "r", 1000, 1000000)}, 1000, indices(0), 1000000}, {[]release.Work{work("a", "r", 1000, 1000000)}, 999, nil, 0}, {manyWorks(8), 1000, indices(1, 3, 5, 7), 1600}, {manyWorks(8), 13, indices(3, 7), 1000},
	} {
		same(t, "Night", all(i, best(x.l, x.length)), all(i, all(x.works, x.worth, api.OK)))
	}
	checkErrors(t, "Night", func(a []any) []any { return best(a[0].([]release.Work), a[1].(int)) }, all(indices(), 0), argumentOf(works7, badWorks()), argumentOf(5, badLengths))
}

func TestBound(t *testing.T) {
	for i, x := range []struct {
		l             []release.Work
		length, price int
		want          int
	}{
		{works7, 6, 10, 80}, // the chapter's example
		{works7, 6, 0, 90}, {works7, 0, 0, 90}, {works7, 6, 12, 78}, {works7, 6, 13, 79}, {works7, 6, 1000, 6000}, {works7, 1000, 1000, 1000000}, {nil, 6, 10, 60}, {nil, 0, 1000, 0}, {nil, 1000, 0, 0},
		// a work that is not worth its price takes nothing away
		{[]release.Work{work("a", "r", 1, 5), work("b", "r", 9, 5), work("c", "s", 1, 4)}, 2, 1, 6}, {[]release.Work{work("a", "r", 5, 5)}, 2, 1, 2}, {[]release.Work{work("a", "r", 5, 6), work("b", "R", 5, 6)}, 2, 1, 3}, {[]release.Work{work("a", "r", 5, 6), work("b", "s", 5, 9), work("c", "r", 5, 9)}, 2, 1, 7},
		{manyWorks(8), 10, 0, 1600}, {[]release.Work{work("a", "r", 1, 1000000), work("b", "r", 1000, 1000000)}, 1000, 999, 999*1000 + 999001 + 1000},
	} {
		same(t, "Bound", all(i, bounded(x.l, x.length, x.price)), all(i, all(x.want, api.OK)))
	}
	checkErrors(t, "Bound", func(a []any) []any { return bounded(a[0].([]release.Work), a[1].(int), a[2].(int)) }, all(0), argumentOf(works7, badWorks()), argumentOf(5, badLengths), argumentOf(5, badPrices))
}

func TestWorksInOtherWords(t *testing.T) {
	r := numbers{9}
	several, none := 0, 0
	for range 2000 {
		most := []int{3, 10, 1000}[r.below(3)]
		l, price := r.works(8, most), r.below(5)
		length := r.below(min(1000, 4*most) + 1)
		same(t, "Night, Bound", all(l, length, price, best(l, length), bounded(l, length, price)), all(l, length, price, bestOf(l, length), all(boundOf(l, length, price), api.OK)))
		works, _, _ := release.Night(l, length)
		switch {
		case len(works) > 1:
			several++
		case len(works) == 0:
			none++
		}
	}
	same(t, "are there all", all(several > 300, none > 100), all(true, true))
}
