package flight

import (
	"slices"

	"glideslope/api"
	"glideslope/common"
)

func (f Figure) name() string { return f.Name }

// result returns the result of a figure for a category.
func (t Tolerance) result(figure api.Interval, category int) int {
	within := t.Within[category-1]
	both := common.Shared(figure, within)
	switch {
	case both == figure:
		return Pass
	case both.Low > both.High:
		return Fail
	}
	return Open
}

// report is figures, and tolerances of some of them.
type report struct {
	figures    []Figure
	tolerances []Tolerance
}

// check returns the first error of a report and a category, or OK.
func (r report) check(category int) api.Errno {
	return common.First(CheckReport(r.figures, r.tolerances), checkCategory(category))
}

// results returns the results for a category of the figures with tolerances.
func (r report) results(category int) []int {
	at := common.Indices(r.figures, Figure.name)
	return common.Mapped(r.tolerances, func(t Tolerance) int {
		return t.result(r.figures[at[t.Name]].Value, category)
	})
}

// result returns the result of a report for a category: the least one of its figures.
func (r report) result(category int) int { return slices.Min(append(r.results(category), Pass)) }

// Result returns the result of a report for a category.
func Result(figures []Figure, tolerances []Tolerance, category int) (int, api.Errno) {
	r := report{figures, tolerances}
	if e := r.check(category); e != api.OK {
		return 0, e
	}
	return r.result(category), api.OK
}

// Reasons returns the figures that do not pass a category.
func Reasons(figures []Figure, tolerances []Tolerance, category int) ([]string, api.Errno) {
	r := report{figures, tolerances}
	if e := r.check(category); e != api.OK {
		return nil, e
	}
	var names []string
	for i, result := range r.results(category) {
		if result != Pass {
			names = append(names, tolerances[i].Name)
		}
	}
	return names, api.OK
}

// Class returns the class of a report.
func Class(figures []Figure, tolerances []Tolerance) (int, api.Errno) {
	if e := CheckReport(figures, tolerances); e != api.OK {
		return 0, e
	}
	r := report{figures, tolerances}
	for passed := range Categories {
		if r.result(passed+1) != Pass {
			return passed, api.OK
		}
	}
	return Categories, api.OK
}
