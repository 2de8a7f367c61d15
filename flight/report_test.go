package flight_test

import (
	"slices"
	"testing"

	"glideslope/api"
	"glideslope/flight"
)

// The tests of this file are those of P8.3.

func TestCheckReport(t *testing.T) {
	figures, tolerances := manyFigures(16)
	for i, x := range []struct {
		figures    []flight.Figure
		tolerances []flight.Tolerance
	}{
		{nil, nil}, {figures8, nil}, {figures8, tolerances8}, {figures8, tolerances8[1:]}, {figures, tolerances}, {figures, tolerances[7:9]}, {[]flight.Figure{figure("a", -1000000, 1000000)}, []flight.Tolerance{tolerance("a", -1000000, 1000000, 1000000, 1000000, -1000000, -1000000)}},
		{figures8, []flight.Tolerance{tolerance("width", 0, 1, -5, 9, 100, 200)}}, // nothing has to be narrower than before
	} {
		same(t, "CheckReport", all(i, flight.CheckReport(x.figures, x.tolerances)), all(i, api.OK))
	}
	for _, x := range badFigures() {
		for _, l := range [][]flight.Tolerance{nil, tolerances8, make([]flight.Tolerance, 17)} {
			same(t, "CheckReport", all(x.x, flight.CheckReport(x.x, l)), all(x.x, x.e))
		}
	}
	for _, x := range badTolerances() {
		same(t, "CheckReport", all(x.x, flight.CheckReport(figures8, x.x)), all(x.x, x.e))
	}
}

func TestExampleReport(t *testing.T) {
	for category, x := range map[int]struct {
		result  int
		reasons []string
	}{1: {flight.Pass, nil}, 2: {flight.Open, []string{"alignment"}}, 3: {flight.Fail, []string{"alignment"}}} {
		same(t, "Result", all(category, resulted(figures8, tolerances8, category)), all(category, all(x.result, api.OK)))
		same(t, "Reasons", all(category, reasoned(figures8, tolerances8, category)), all(category, all(x.reasons, api.OK)))
	}
	same(t, "Class", classed(figures8, tolerances8), all(1, api.OK))
}

func TestResult(t *testing.T) {
	within := interval(-5, 8)
	for value, want := range map[api.Interval]int{
		interval(-5, 8): flight.Pass, interval(0, 0): flight.Pass, interval(-5, -5): flight.Pass, interval(8, 8): flight.Pass, interval(-4, 7): flight.Pass,
		interval(-6, 8): flight.Open, interval(-5, 9): flight.Open, interval(-6, 9): flight.Open, interval(-20, -5): flight.Open, interval(8, 20): flight.Open, interval(-1000000, 1000000): flight.Open,
		interval(-20, -6): flight.Fail, interval(-6, -6): flight.Fail, interval(9, 9): flight.Fail, interval(9, 1000000): flight.Fail, interval(-1000000, -6): flight.Fail,
	} {
		figures, tolerances := []flight.Figure{{Name: "a", Value: value}}, []flight.Tolerance{{Name: "a", Within: [3]api.Interval{within, within, within}}}
		var reasons []string
		if want != flight.Pass {
			reasons = []string{"a"}
		}
		same(t, "Result, Reasons", all(value, resulted(figures, tolerances, 2), reasoned(figures, tolerances, 2)), all(value, all(want, api.OK), all(reasons, api.OK)))
	}
	same(t, "constants", all(flight.Fail, flight.Open, flight.Pass), all(-1, 0, 1))
}

func TestReports(t *testing.T) {
	figures := []flight.Figure{figure("b", 0, 0), figure("a", 0, 5), figure("c", 7, 7), figure("d", 9, 9)}
	tolerances := []flight.Tolerance{tolerance("d", 9, 9, 8, 8, 8, 8), tolerance("a", 0, 5, 1, 5, 6, 6), tolerance("b", 0, 0, 0, 0, 0, 0)}
	for i, x := range []struct {
		tolerances []flight.Tolerance
		category   int
		result     int
		reasons    []string
		class      int
	}{
		// without tolerances nothing is wanting
		{nil, 1, 1, nil, 3}, {nil, 3, 1, nil, 3}, {tolerances, 1, 1, nil, 1},
		// a figure that fails is worse than one that is open, wherever it is; reasons stand in the order of the tolerances
		{tolerances, 2, -1, []string{"d", "a"}, 1}, {tolerances, 3, -1, []string{"d", "a"}, 1}, {tolerances[1:], 2, 0, []string{"a"}, 1}, {[]flight.Tolerance{tolerances[1], tolerances[0]}, 2, -1, []string{"a", "d"}, 1}, {tolerances[2:], 3, 1, nil, 3},
		// the class ends with the first category that is not passed
		{[]flight.Tolerance{tolerance("c", 0, 6, 7, 7, 7, 7)}, 1, -1, []string{"c"}, 0}, {[]flight.Tolerance{tolerance("c", 0, 6, 7, 7, 7, 7)}, 3, 1, nil, 0}, {[]flight.Tolerance{tolerance("c", 7, 7, 0, 6, 7, 7)}, 3, 1, nil, 1}, {[]flight.Tolerance{tolerance("c", 7, 7, 7, 7, 0, 6)}, 3, -1, []string{"c"}, 2}, {[]flight.Tolerance{tolerance("a", 0, 5, 0, 5, 0, 4)}, 3, 0, []string{"a"}, 2}, {[]flight.Tolerance{tolerance("a", 1, 5, 0, 5, 0, 5)}, 1, 0, []string{"a"}, 0}, {[]flight.Tolerance{tolerance("c", 7, 7, 7, 7, 7, 7)}, 3, 1, nil, 3},
	} {
		same(t, "Result", all(i, resulted(figures, x.tolerances, x.category)), all(i, all(x.result, api.OK)))
		same(t, "Reasons", all(i, reasoned(figures, x.tolerances, x.category)), all(i, all(x.reasons, api.OK)))
		same(t, "Class", all(i, classed(figures, x.tolerances)), all(i, all(x.class, api.OK)))
	}
}

func TestReportsByNumbers(t *testing.T) {
	r := numbers{19}
	counts := map[int]int{}
	for range 3000 {
		figures, tolerances := r.report()
		for category := 1; category <= 3; category++ {
			result, reasons := reportOf(figures, tolerances, category)
			same(t, "Result", all(figures, tolerances, category, resulted(figures, tolerances, category)), all(figures, tolerances, category, all(result, api.OK)))
			same(t, "Reasons", all(figures, tolerances, category, reasoned(figures, tolerances, category)), all(figures, tolerances, category, all(reasons, api.OK)))
			counts[result]++
		}
		class := classOf(figures, tolerances)
		same(t, "Class", all(figures, tolerances, classed(figures, tolerances)), all(figures, tolerances, all(class, api.OK)))
		counts[10+class]++
	}
	for _, kind := range indices(-1, 0, 1, 10, 11, 12, 13) {
		same(t, "are there all kinds", all(kind, counts[kind] > 100), all(kind, true))
	}
}

func TestReportErrors(t *testing.T) {
	figures, tolerances := argumentOf(figures8, badFigures()), argumentOf(tolerances8, badTolerances())
	call := func(f func([]flight.Figure, []flight.Tolerance, int) []any) func(a []any) []any {
		return func(a []any) []any { return f(a[0].([]flight.Figure), a[1].([]flight.Tolerance), a[2].(int)) }
	}
	checkErrors(t, "Result", call(resulted), all(0), figures, tolerances, argumentOf(2, badCategories))
	checkErrors(t, "Reasons", call(reasoned), all([]string{}), figures, tolerances, argumentOf(2, badCategories))
	checkErrors(t, "Class", func(a []any) []any { return classed(a[0].([]flight.Figure), a[1].([]flight.Tolerance)) }, all(0), figures, tolerances)
	same(t, "categories of no report", all(resulted(nil, nil, 0), reasoned(nil, nil, 4), resulted(nil, slices.Clone(tolerances8), 0)), all(all(0, api.ErrRange), all([]string{}, api.ErrRange), all(0, api.ErrUnknown)))
}
