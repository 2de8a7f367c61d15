package release

import (
	"glideslope/api"
	"glideslope/common"
)

const weatherWord = "weather"

// lesser returns the lesser one of both views of each third.
func lesser(a, b [3]int) [3]int {
	for i, view := range b {
		a[i] = min(a[i], view)
	}
	return a
}

// isEnough reports whether a weather is enough for minima.
func (w Weather) isEnough(minima Weather) bool {
	return w.Ceiling >= minima.Ceiling && lesser(w.Views, minima.Views) == minima.Views
}

// needed returns the category that a weather needs.
func (r Runway) needed(w Weather) int {
	for i := range Categories {
		if w.isEnough(r.Minima[i]) {
			return i + 1
		}
	}
	return 0
}

// supply is equipment, and what is needed of it.
type supply struct {
	Equipment
	needs Equipment
}

// lacks returns the reasons for which equipment is not enough.
func lacks() []common.Reason[supply] {
	return []common.Reason[supply]{
		{Word: "signal", Applies: func(x supply) bool { return x.Signal < x.needs.Signal }},
		{Word: "lights", Applies: func(x supply) bool { return x.Lights < x.needs.Lights }},
		{Word: "switch", Applies: func(x supply) bool { return x.Switch > x.needs.Switch }},
		{Word: "standby", Applies: func(x supply) bool { return x.needs.Standby && !x.Standby }},
	}
}

// lacking returns the words of the reasons for which equipment is not enough.
func (x supply) lacking() []string { return common.Applying(lacks(), x) }

// isHarder reports whether the category at an index, but the first one, permits no more than the one before it: its minima are not above, and its needs are enough for those of the one before.
func (r Runway) isHarder(i int) bool {
	kept := supply{r.Needs[i], r.Needs[i-1]}
	return r.Minima[i-1].isEnough(r.Minima[i]) && len(kept.lacking()) == 0
}

// capable returns the category of equipment. What is not enough for a category is not enough for those after it.
func (r Runway) capable(x Equipment) int {
	category := 0
search:
	for i := range Categories {
		for _, lack := range lacks() {
			if lack.Applies(supply{x, r.Needs[i]}) {
				break search
			}
		}
		category = i + 1
	}
	return category
}

// limited is the category that a landing needs, and the limits of its aircraft and of its crew.
type limited struct {
	category int
	limits   [2]int
}

// limitations returns the reasons for which the limits of a landing are too low.
func limitations() []common.Reason[limited] {
	return []common.Reason[limited]{
		{Word: "aircraft", Applies: func(x limited) bool { return x.limits[0] < x.category }},
		{Word: "crew", Applies: func(x limited) bool { return x.limits[1] < x.category }},
	}
}

// lacking returns the words of the reasons for which the limits of a landing are too low.
func (x limited) lacking() []string { return common.Applying(limitations(), x) }

// Needed returns the category that a weather needs.
func Needed(r Runway, w Weather) (int, api.Errno) {
	if e := common.First(CheckRunway(r), checkWeather(w)); e != api.OK {
		return 0, e
	}
	return r.needed(w), api.OK
}

// Capable returns the category of equipment.
func Capable(r Runway, x Equipment) (int, api.Errno) {
	if e := common.First(CheckRunway(r), checkEquipment(x)); e != api.OK {
		return 0, e
	}
	return r.capable(x), api.OK
}

// Permitted returns the category that a landing needs, and the reasons why it is not permitted.
func Permitted(r Runway, w Weather, x Equipment, limits [2]int) (int, []string, api.Errno) {
	e := common.First(CheckRunway(r), checkWeather(w), checkEquipment(x), checkLimits(limits))
	if e != api.OK {
		return 0, nil, e
	}
	category := r.needed(w)
	if category == 0 {
		return 0, []string{weatherWord}, api.OK
	}
	reasons := supply{x, r.Needs[category-1]}.lacking()
	return category, append(reasons, limited{category, limits}.lacking()...), api.OK
}
