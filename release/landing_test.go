package release_test

import (
	"testing"

	"glideslope/api"
	"glideslope/release"
)

// The tests of this file are those of P9.1.

func TestCheckRunway(t *testing.T) {
	lowest, highest := weather(0, 0, 0, 0), weather(10000, 10000, 10000, 10000)
	for i, r := range []release.Runway{
		runwayR, {Name: "a"}, {Name: "abcdefghijklmnopqrstuvwx"}, {Name: "A_9", Minima: [3]release.Weather{highest, highest, highest}, Needs: [3]release.Equipment{supplied(3, 3, 60), supplied(3, 3, 60), supplied(3, 3, 60)}},
		{Name: "a", Minima: [3]release.Weather{highest, highest, lowest}, Needs: [3]release.Equipment{equipment(0, 0, 60), equipment(0, 0, 60), supplied(3, 3, 0)}},
		{Name: "a", Minima: [3]release.Weather{highest, lowest, lowest}, Needs: [3]release.Equipment{equipment(0, 0, 60), supplied(3, 3, 0), supplied(3, 3, 0)}},
		{Name: "a", Minima: [3]release.Weather{weather(1, 5, 3, 2), weather(1, 4, 3, 2), weather(0, 4, 3, 2)}, Needs: [3]release.Equipment{equipment(1, 2, 9), equipment(1, 3, 9), supplied(2, 3, 9)}},
	} {
		same(t, "CheckRunway", all(i, release.CheckRunway(r)), all(i, api.OK))
	}
	checkErrors(t, "CheckRunway", func(a []any) []any { return all(release.CheckRunway(a[0].(release.Runway))) }, nil, argumentOf(runwayR, badRunways()))
}

func TestNeeded(t *testing.T) {
	for i, x := range []struct {
		w    release.Weather
		want int
	}{
		{weather(600, 500, 300, 70), 1}, {weather(320, 200, 100, 40), 2}, {weather(600, 500, 100, 70), 2}, {weather(50, 50, 50, 0), 0}, // the chapter's example
		{weather(550, 400, 200, 60), 1}, {weather(549, 400, 200, 60), 2}, {weather(550, 399, 200, 60), 2}, {weather(550, 400, 199, 60), 2}, {weather(550, 400, 200, 59), 2}, {weather(300, 150, 0, 30), 2}, {weather(299, 150, 0, 30), 3}, {weather(300, 149, 0, 30), 3}, {weather(300, 150, 0, 29), 3}, {weather(75, 50, 0, 0), 3}, {weather(74, 50, 0, 0), 0}, {weather(75, 49, 0, 0), 0},
		{weather(10000, 10000, 10000, 10000), 1}, {weather(10000, 10000, 10000, 0), 3}, {weather(0, 10000, 10000, 10000), 0}, {weather(0, 0, 0, 0), 0},
	} {
		same(t, "Needed", all(i, needed(runwayR, x.w)), all(i, all(x.want, api.OK)))
	}
	// the least one of several, and what needs no view at all
	same(t, "Needed", needed(release.Runway{Name: "a"}, release.Weather{}), all(1, api.OK))
	checkErrors(t, "Needed", func(a []any) []any { return needed(a[0].(release.Runway), a[1].(release.Weather)) }, all(0), argumentOf(runwayR, badRunways()), argumentOf(weather(1, 2, 3, 4), badWeathers()))
}

func TestCapable(t *testing.T) {
	for i, x := range []struct {
		x    release.Equipment
		want int
	}{
		{supplied(3, 2, 1), 2}, {supplied(3, 3, 1), 3}, {supplied(3, 3, 10), 1}, // the chapter's example
		{equipment(3, 3, 1), 2}, {supplied(2, 3, 1), 2}, {supplied(3, 3, 2), 2}, {supplied(3, 3, 0), 3}, {equipment(2, 2, 5), 2}, {equipment(1, 2, 5), 1}, {equipment(2, 1, 5), 1}, {equipment(2, 2, 6), 1}, {equipment(1, 1, 15), 1}, {equipment(0, 1, 15), 0}, {equipment(1, 0, 15), 0}, {equipment(1, 1, 16), 0}, {supplied(3, 3, 60), 0}, {release.Equipment{}, 0},
	} {
		same(t, "Capable", all(i, capable(runwayR, x.x)), all(i, all(x.want, api.OK)))
	}
	same(t, "Capable", capable(release.Runway{Name: "a"}, release.Equipment{}), all(3, api.OK))
	checkErrors(t, "Capable", func(a []any) []any { return capable(a[0].(release.Runway), a[1].(release.Equipment)) }, all(0), argumentOf(runwayR, badRunways()), argumentOf(equipment(1, 1, 1), badEquipments()))
}

func TestPermitted(t *testing.T) {
	second, third := weather(320, 200, 100, 40), weather(75, 50, 0, 0)
	for i, x := range []struct {
		w       release.Weather
		x       release.Equipment
		limits  [2]int
		want    int
		reasons []string
	}{
		{second, supplied(3, 1, 10), [2]int{3, 1}, 2, words("lights", "switch", "crew")}, // the chapter's example
		{second, supplied(3, 3, 1), [2]int{3, 3}, 2, nil}, {second, equipment(2, 2, 5), [2]int{2, 2}, 2, nil}, {second, equipment(1, 2, 5), [2]int{2, 2}, 2, words("signal")}, {second, equipment(2, 1, 5), [2]int{2, 2}, 2, words("lights")}, {second, equipment(2, 2, 6), [2]int{2, 2}, 2, words("switch")}, {second, equipment(2, 2, 5), [2]int{1, 2}, 2, words("aircraft")}, {second, equipment(2, 2, 5), [2]int{2, 1}, 2, words("crew")},
		{third, equipment(3, 3, 1), [2]int{3, 3}, 3, words("standby")}, {third, equipment(0, 0, 60), [2]int{0, 0}, 3, words("signal", "lights", "switch", "standby", "aircraft", "crew")}, {third, equipment(0, 3, 60), [2]int{2, 3}, 3, words("signal", "switch", "standby", "aircraft")}, {third, supplied(3, 3, 1), [2]int{3, 3}, 3, nil},
		// the weather alone, whatever else there is
		{weather(74, 50, 0, 0), equipment(0, 0, 60), [2]int{0, 0}, 0, words("weather")}, {weather(74, 50, 0, 0), supplied(3, 3, 0), [2]int{3, 3}, 0, words("weather")},
		{weather(550, 400, 200, 60), equipment(1, 1, 15), [2]int{1, 1}, 1, nil}, {weather(550, 400, 200, 60), equipment(1, 1, 15), [2]int{0, 0}, 1, words("aircraft", "crew")},
	} {
		same(t, "Permitted", all(i, permitted(runwayR, x.w, x.x, x.limits)), all(i, all(x.want, x.reasons, api.OK)))
	}
	checkErrors(t, "Permitted", func(a []any) []any {
		return permitted(a[0].(release.Runway), a[1].(release.Weather), a[2].(release.Equipment), a[3].([2]int))
	}, all(0, words()), argumentOf(runwayR, badRunways()), argumentOf(second, badWeathers()), argumentOf(equipment(1, 1, 1), badEquipments()), argumentOf([2]int{1, 1}, badLimits()))
}

func TestLandingsInOtherWords(t *testing.T) {
	r := numbers{3}
	counts, reasons := map[int]int{}, map[string]int{}
	for range 5000 {
		most := []int{3, 60, 10000}[r.below(3)]
		x := r.runway(most)
		w, y, limits := r.weather(x, most), r.equipment(x), [2]int{r.below(4), r.below(4)}
		same(t, "CheckRunway", all(x, release.CheckRunway(x)), all(x, api.OK))
		want := reasonsOf(x, w, y, limits)
		same(t, "Needed, Capable, Permitted", all(x, w, y, limits, needed(x, w), capable(x, y), permitted(x, w, y, limits)), all(x, w, y, limits, all(neededOf(x, w), api.OK), all(capableOf(x, y), api.OK), all(neededOf(x, w), want, api.OK)))
		counts[neededOf(x, w)]++
		counts[10+capableOf(x, y)]++
		for _, word := range want {
			reasons[word]++
		}
	}
	same(t, "are there all", all(len(counts), len(reasons)), all(8, 7))
}
