package common_test

import (
	"cmp"
	"fmt"
	"math"
	"slices"
	"strings"
	"testing"

	"glideslope/api"
	"glideslope/common"
)

// same compares results with the expected ones; nil and empty lists are equal.
func same(t *testing.T, what string, got, want []any) {
	t.Helper()
	shown := func(l []any) string { return strings.ReplaceAll(fmt.Sprintf("%#v", l), "(nil)", "{}") }
	if g, w := shown(got), shown(want); g != w {
		t.Errorf("%s:\n got %s\nwant %s", what, g, w)
	}
}

func all(l ...any) []any { return l }

func TestFirst(t *testing.T) {
	same(t, "First", all(common.First(), common.First(api.OK, api.OK), common.First(api.OK, api.ErrOld, api.ErrForm)), all(api.OK, api.OK, api.ErrOld))
	same(t, "Failed", all(common.Failed(true, api.ErrForm), common.Failed(false, api.ErrForm)), all(api.ErrForm, api.OK))
	for n, want := range map[int]api.Errno{-3: api.ErrRange, -2: api.OK, 5: api.OK, 6: api.ErrRange, math.MinInt: api.ErrRange, math.MaxInt: api.ErrRange} {
		same(t, "Between", all(n, common.Between(n, -2, 5)), all(n, want))
	}
}

func TestCheckList(t *testing.T) {
	check := func(n int) api.Errno { return api.Errno(n) }
	for i, x := range []struct {
		l []int
		e api.Errno
	}{{nil, api.OK}, {[]int{0, 0, 0}, api.OK}, {[]int{0, 0, 0, 0}, api.ErrMany}, {[]int{9, 0, 0, 0}, api.ErrMany}, {[]int{0, 7, 3}, api.ErrNone}} {
		same(t, "CheckList", all(i, common.CheckList(x.l, 3, check)), all(i, x.e))
	}
}

func TestCheckSome(t *testing.T) {
	check := func(n int) api.Errno { return api.Errno(n) }
	for i, x := range []struct {
		l []int
		e api.Errno
	}{{nil, api.ErrEmpty}, {[]int{}, api.ErrEmpty}, {[]int{0}, api.OK}, {[]int{0, 0, 0}, api.OK}, {[]int{9, 0, 0, 0}, api.ErrMany}, {[]int{0, 7, 3}, api.ErrNone}} {
		same(t, "CheckSome", all(i, common.CheckSome(x.l, 3, check)), all(i, x.e))
	}
}

func TestOnce(t *testing.T) {
	once, other := common.Once[int](), common.Once[int]()
	for i, x := range []struct {
		n int
		e api.Errno
	}{{3, api.OK}, {0, api.OK}, {3, api.ErrTwice}, {-3, api.OK}, {3, api.ErrTwice}, {0, api.ErrTwice}} {
		same(t, "Once", all(i, once(x.n)), all(i, x.e))
	}
	same(t, "Once of another list", all(other(3), other(3)), all(api.OK, api.ErrTwice))
}

func TestAscending(t *testing.T) {
	ascending, other := common.Ascending(-3), common.Ascending(-3)
	for i, x := range []struct {
		n int
		e api.Errno
	}{{-2, api.OK}, {5, api.OK}, {5, api.ErrOrder}, {6, api.OK}, {4, api.ErrOrder}, {5, api.OK}, {math.MinInt, api.ErrOrder}, {math.MaxInt, api.OK}} { // by the number before, whether it had an error or not
		same(t, "Ascending", all(i, ascending(x.n)), all(i, x.e))
	}
	same(t, "Ascending of other lists", all(other(-3), common.Ascending(0)(1), common.Ascending(0)(0)), all(api.ErrOrder, api.OK, api.ErrOrder))
}

func TestCheckIndex(t *testing.T) {
	for i, want := range map[int]api.Errno{0: api.OK, 2: api.OK, 3: api.ErrUnknown, -1: api.ErrUnknown, math.MinInt: api.ErrUnknown, math.MaxInt: api.ErrUnknown} {
		same(t, "CheckIndex", all(i, common.CheckIndex(i, 3), common.CheckIndex(i, 0)), all(i, want, api.ErrUnknown))
	}
}

func TestDistinct(t *testing.T) {
	isName := func(s string) bool { return s != "" && s[0] != '9' }
	check := common.Distinct(isName)
	for i, x := range []struct {
		name string
		e    api.Errno
	}{{"a", api.OK}, {"b", api.OK}, {"a", api.ErrTwice}, {"", api.ErrName}, {"", api.ErrName}, {"9", api.ErrName}, {"A", api.OK}, {"b", api.ErrTwice}, {"a", api.ErrTwice}} {
		same(t, "Distinct", all(i, check(x.name)), all(i, x.e))
	}
	same(t, "Distinct of another list", all(common.Distinct(isName)("a")), all(api.OK))
}

func TestIndices(t *testing.T) {
	name := func(x [2]string) string { return x[1] }
	for _, x := range []struct {
		l    [][2]string
		want map[string]int
	}{{nil, map[string]int{}}, {[][2]string{{"x", "b"}, {"b", "a"}, {"x", ""}}, map[string]int{"b": 0, "a": 1, "": 2}}} {
		same(t, "Indices", all(common.Indices(x.l, name)), all(x.want))
	}
}

func TestSet(t *testing.T) {
	// a set stays as it is when another one is made of it
	s := append(make(common.Set, 0, 8), 1, 4)
	five, seven := s.With(5), s.With(7)
	same(t, "With", all(s, five, seven, seven.With(8), common.Set(nil).With(0)), all(common.Set{1, 4}, common.Set{1, 4, 5}, common.Set{1, 4, 7}, common.Set{1, 4, 7, 8}, common.Set{0}))
	ordered := []common.Set{nil, {0}, {1}, {9}, {0, 1}, {0, 9}, {1, 2}, {0, 1, 2}}
	for i, a := range ordered {
		for k, b := range ordered {
			same(t, "Compare", all(a, b, a.Compare(b)), all(a, b, cmp.Compare(i, k)))
		}
	}
	same(t, "Compare", all(common.Set{}.Compare(nil)), all(0))
}

func interval(low, high int) api.Interval { return api.Interval{Low: low, High: high} }

func TestCheckInterval(t *testing.T) {
	for _, x := range []struct {
		x api.Interval
		e api.Errno
	}{
		{interval(-2, 5), api.OK}, {interval(5, 5), api.OK}, {interval(-2, -2), api.OK}, {interval(5, 4), api.ErrOrder}, {interval(5, -2), api.ErrOrder},
		{interval(-3, 5), api.ErrRange}, {interval(-2, 6), api.ErrRange}, {interval(6, 5), api.ErrRange}, {interval(5, -3), api.ErrRange}, {interval(math.MinInt, math.MaxInt), api.ErrRange}, {interval(math.MaxInt, math.MinInt), api.ErrRange},
	} {
		same(t, "CheckInterval", all(x.x, common.CheckInterval(x.x, -2, 5)), all(x.x, x.e))
	}
}

func TestCheckSpan(t *testing.T) {
	for x, want := range map[api.Span]api.Errno{
		{From: 0, To: 1}: api.OK, {From: 0, To: 9}: api.OK, {From: 8, To: 9}: api.OK,
		{From: 0, To: 0}: api.ErrSpan, {From: 5, To: 4}: api.ErrSpan, {From: 9, To: 9}: api.ErrSpan, {From: -1, To: 5}: api.ErrSpan, {From: 0, To: 10}: api.ErrSpan, {From: 9, To: 10}: api.ErrSpan, {From: math.MinInt, To: math.MaxInt}: api.ErrSpan, {From: math.MaxInt, To: math.MinInt}: api.ErrSpan,
	} {
		same(t, "CheckSpan", all(x, common.CheckSpan(x, 9)), all(x, want))
	}
}

func TestIntervals(t *testing.T) {
	for n, is := range map[int]bool{-3: false, -2: true, 0: true, 5: true, 6: false, math.MinInt: false, math.MaxInt: false} {
		same(t, "Within", all(n, common.Within(n, interval(-2, 5)), common.Within(n, interval(n, n)), common.Within(n, interval(5, -2))), all(n, is, true, false))
	}
	same(t, "Exactly, Reach", all(common.Exactly(-7), common.Reach(3), common.Reach(3, -1, 8, 8, 0)), all(interval(-7, -7), interval(3, 3), interval(-1, 8)))
	// the least and the greatest result of all numbers of both intervals
	for a := range 81 {
		for b := range 81 {
			x, y := interval(a/9-4, a%9-4), interval(b/9-4, b%9-4)
			if x.Low > x.High || y.Low > y.High {
				continue
			}
			var sums, products, squares, shared []int
			for i := x.Low; i <= x.High; i++ {
				squares = append(squares, i*i)
				for j := y.Low; j <= y.High; j++ {
					sums, products = append(sums, i+j), append(products, i*j)
					if i == j {
						shared = append(shared, i)
					}
				}
			}
			if both := common.Shared(x, y); len(shared) == 0 {
				same(t, "Shared", all(x, y, both.Low > both.High), all(x, y, true))
			} else {
				same(t, "Shared", all(x, y, both), all(x, y, common.Reach(shared...)))
			}
			same(t, "Sums, Products, Squares", all(x, y, common.Sums(x, y), common.Products(x, y), common.Squares(x)), all(x, y, common.Reach(sums...), common.Reach(products...), common.Reach(squares...)))
		}
	}
}

func TestLists(t *testing.T) {
	l := []int{1, 2, 3}
	same(t, "Mapped", all(common.Mapped(l, func(n int) bool { return n == 2 }), l), all([]bool{false, true, false}, []int{1, 2, 3}))
	isOdd := func(n int) bool { return n%2 == 1 }
	same(t, "Where", all(common.Where(l, isOdd), common.Where(l[1:2], isOdd), common.Where(nil, isOdd), l), all([]int{1, 3}, []int(nil), []int(nil), []int{1, 2, 3}))
	var spans []api.Span
	for _, i := range []int{0, 1, 3, 7, 8} {
		spans = common.Widened(spans, i)
	}
	want := []api.Span{{From: 0, To: 2}, {From: 3, To: 4}, {From: 7, To: 9}}
	same(t, "Widened", all(spans), all(want))
	same(t, "SpansWhere", all(common.SpansWhere([]byte("xx-x---xx"), func(b byte) bool { return b == 'x' })), all(want))
	same(t, "SpansWhere of none", all(common.SpansWhere([]byte("---"), func(b byte) bool { return b == 'x' })), all([]api.Span(nil)))
}

func TestJoined(t *testing.T) {
	var spans []api.Span
	for _, s := range []api.Span{{From: 2, To: 5}, {From: 5, To: 6}, {From: 8, To: 9}, {From: 10, To: 20}, {From: 20, To: 21}} {
		spans = common.Joined(spans, s)
	}
	same(t, "Joined", all(spans), all([]api.Span{{From: 2, To: 6}, {From: 8, To: 9}, {From: 10, To: 21}}))
}

func TestReasons(t *testing.T) {
	reasons := []common.Reason[int]{
		{Word: "odd", Applies: func(n int) bool { return n%2 == 1 }},
		{Word: "small", Applies: func(n int) bool { return n < 10 }},
		{Word: "zero", Applies: func(n int) bool { return n == 0 }},
	}
	for n, want := range map[int][]string{0: {"small", "zero"}, 3: {"odd", "small"}, 11: {"odd"}, 12: nil} {
		same(t, "Applying", all(n, common.Applying(reasons, n)), all(n, want))
	}
	same(t, "Applying of none", all(common.Applying(nil, 3)), all([]string(nil)))
}

func TestOrders(t *testing.T) {
	for n, want := range []string{"[[]]", "[[0]]", "[[0 1] [1 0]]", "[[0 1 2] [0 2 1] [1 0 2] [1 2 0] [2 0 1] [2 1 0]]"} {
		same(t, "Orders", all(n, fmt.Sprint(slices.Collect(common.Orders(n)))), all(n, want))
	}
	// each one comes after the one before it, and has all indices
	var before []int
	count := 0
	for order := range common.Orders(7) {
		same(t, "Orders", all(order, slices.Compare(before, order), slices.Sorted(slices.Values(order))), all(order, -1, []int{0, 1, 2, 3, 4, 5, 6}))
		before = order
		count++
	}
	same(t, "Orders", all(count), all(5040))
	for order := range common.Orders(3) {
		same(t, "Orders, stopped", all(order), all([]int{0, 1, 2}))
		break
	}
}

func TestRatios(t *testing.T) {
	for _, x := range [][3]int{{12, 18, 6}, {-12, 18, 6}, {12, -18, 6}, {0, 7, 7}, {7, 0, 7}, {0, 0, 0}, {1, 999999999, 1}} {
		same(t, "Divisor", all(x, common.Divisor(x[0], x[1])), all(x, x[2]))
	}
	for _, x := range [][4]int{{12, 18, 2, 3}, {-12, 18, -2, 3}, {0, 7, 0, 1}, {5, 1, 5, 1}, {0, 0, 0, 0}} {
		same(t, "Ratio", all(x, common.Ratio(x[0], x[1])), all(x, api.Ratio{Num: x[2], Den: x[3]}))
	}
}

func TestQuotients(t *testing.T) {
	for _, x := range [][5]int{{7, 2, 3, 4, 4}, {-7, 2, -4, -3, -3}, {6, 3, 2, 2, 2}, {-6, 3, -2, -2, -2}, {0, 5, 0, 0, 0}, {1, 3, 0, 1, 0}, {2, 3, 0, 1, 1}, {-1, 3, -1, 0, 0}, {-2, 3, -1, 0, -1}, {1, 2, 0, 1, 1}, {-1, 2, -1, 0, 0}, {1 << 60, 1, 1 << 60, 1 << 60, 1 << 60}} {
		same(t, "Floor, Ceiling, Nearest", all(x[:2], common.Floor(x[0], x[1]), common.Ceiling(x[0], x[1]), common.Nearest(x[0], x[1])), all(x[:2], x[2], x[3], x[4]))
		same(t, "Floor of int64", all(x[:2], common.Floor(int64(x[0]), int64(x[1]))), all(x[:2], int64(x[2])))
	}
}

func TestComplexIntegers(t *testing.T) {
	gauss := func(re, im int) api.Gauss { return api.Gauss{Re: re, Im: im} }
	for k, want := range map[int]api.Gauss{0: gauss(1, 0), 1: gauss(0, 1), 2: gauss(-1, 0), 3: gauss(0, -1), 4: gauss(1, 0), 9: gauss(0, 1), -1: gauss(0, -1), -6: gauss(-1, 0), math.MinInt: gauss(1, 0), math.MaxInt: gauss(0, -1)} {
		same(t, "Turn", all(k, common.Turn(k)), all(k, want))
	}
	for k, want := range map[int]api.Errno{-1: api.ErrRange, 0: api.OK, 3: api.OK, 4: api.ErrRange, math.MinInt: api.ErrRange} {
		same(t, "CheckTurns", all(k, common.CheckTurns(k)), all(k, want))
	}
	minus := math.Copysign(0, -1)
	same(t, "Complex, Gauss", all(common.Complex(gauss(3, -4)), common.Gauss(3-4i), common.Complex(common.Gauss(complex(minus, minus)))), all(3-4i, gauss(3, -4), 0i))
	same(t, "Absolute", all(common.Absolute(-3), common.Absolute(0), common.Absolute(4)), all(3, 0, 4))
	same(t, "Conjugate, Along", all(common.Conjugate(3-4i), common.Along(3-4i, 1+2i), common.Along(30000000-30000000i, 30000000-30000001i)), all(3+4i, -5, 1800000030000000))
	for i, x := range []struct {
		l []api.Gauss
		e api.Errno
	}{{nil, api.OK}, {[]api.Gauss{gauss(9, -9), gauss(-9, 9)}, api.OK}, {[]api.Gauss{gauss(0, 0), gauss(10, 0)}, api.ErrRange}, {[]api.Gauss{gauss(-10, 0)}, api.ErrRange}, {[]api.Gauss{gauss(0, 10)}, api.ErrRange}, {[]api.Gauss{gauss(0, -10), gauss(0, 0)}, api.ErrRange}, {[]api.Gauss{gauss(math.MinInt, 0)}, api.ErrRange}} {
		same(t, "CheckParts", all(i, common.CheckParts(9, x.l...)), all(i, x.e))
	}
}

func TestIntegers(t *testing.T) {
	for _, x := range []struct {
		word              string
		n                 int
		isCount, isNumber bool
	}{
		{"0", 0, true, true}, {"7", 7, true, true}, {"10", 10, true, true}, {"999999999", 999999999, true, true}, {"-1", -1, false, true}, {"-999999999", -999999999, false, true},
		{"", 0, false, false}, {"-", 0, false, false}, {"-0", 0, false, false}, {"00", 0, false, false}, {"01", 0, false, false}, {"-01", 0, false, false}, {"--1", 0, false, false}, {"+1", 0, false, false},
		{"1000000000", 0, false, false}, {"-1000000000", 0, false, false}, {"000000001", 0, false, false}, {"1a", 0, false, false}, {"a", 0, false, false}, {"1-", 0, false, false}, {"1/", 0, false, false}, {"1:", 0, false, false},
		{"\u0661", 0, false, false}, {"1\xff", 0, false, false}, {" 1", 0, false, false}, {"1_0", 0, false, false}, {"0x1", 0, false, false},
	} {
		n, is := common.Integer(x.word)
		same(t, "Integer", all(x.word, n, is), all(x.word, x.n, x.isNumber))
		n, is = common.Count(x.word)
		if !x.isCount {
			x.n = 0
		}
		same(t, "Count", all(x.word, n, is), all(x.word, x.n, x.isCount))
	}
}

func TestTakenIntegers(t *testing.T) {
	taken := func(read func(n int, take func() string) ([]int, bool), s string, n int) []any {
		left := strings.Fields(s)
		l, are := read(n, func() string {
			if len(left) == 0 {
				return ""
			}
			word := left[0]
			left = left[1:]
			return word
		})
		return all(l, are, left)
	}
	for _, x := range []struct {
		s                   string
		n                   int
		l                   []int
		areCounts, areWords bool
		left                []string
	}{
		{"1 22 3", 2, []int{1, 22}, true, true, []string{"3"}}, {"", 0, nil, true, true, nil}, {"7", 0, nil, true, true, []string{"7"}},
		{"5", 2, []int{5, 0}, false, false, nil}, {"a 5", 2, []int{0, 5}, false, false, nil}, {"5 a", 2, []int{5, 0}, false, false, nil}, {"5 -6", 2, []int{5, -6}, false, true, nil}, {"-6 5", 2, []int{-6, 5}, false, true, nil},
	} {
		same(t, "Integers", all(x.s, taken(common.Integers, x.s, x.n)), all(x.s, all(x.l, x.areWords, x.left)))
		for i := range x.l {
			x.l[i] = max(0, x.l[i])
		}
		same(t, "Counts", all(x.s, taken(common.Counts, x.s, x.n)), all(x.s, all(x.l, x.areCounts, x.left)))
	}
}

func TestWords(t *testing.T) {
	for line, want := range map[string][]string{"": {""}, " ": {"", ""}, "a": {"a"}, "a bc 5": {"a", "bc", "5"}, "a  b": {"a", "", "b"}, "a\n b\t": {"a\n", "b\t"}, "b ": {"b", ""}} {
		w := common.WordsOf(line)
		for i, word := range want {
			same(t, "WordsOf", all(line, w.Left(), w.Next()), all(line, len(want)-i, word))
		}
		same(t, "Next at the end", all(line, w.Left(), w.Next(), w.Left()), all(line, 0, "", 0))
	}
}

func TestLines(t *testing.T) {
	same(t, "Line", all(common.Line("a", "b c", ""), common.NumberLine("x", 1, -20), common.NumberLine("x")), all("a b c \n", "x 1 -20\n", "x\n"))
	for i, x := range []struct {
		s  string
		n  int
		e  api.Errno
		in []string
	}{
		{"", 0, api.OK, nil},
		{"x 1 2\nx 3 -4\n", 2, api.OK, []string{"0 x [1 2] true\n", "1 x [3 -4] true\n"}},
		{"x 1 2\nx 3 4", 1, api.ErrSyntax, []string{"0 x [1 2] true\n"}},
		{"x 1 2\n\nx 1 2\n", 1, api.ErrSyntax, []string{"0 x [1 2] true\n", "1  [0 0] false\n"}},
		{"x 1\n", 0, api.ErrSyntax, []string{"0 x [1 0] false\n"}},
		{"x a 2\n", 0, api.ErrSyntax, []string{"0 x [0 2] false\n"}},
		{"x 1 2 3\n", 0, api.ErrSyntax, []string{"0 x [1 2] true\n"}},
		{"x 1 2 \n", 0, api.ErrSyntax, []string{"0 x [1 2] true\n"}},
		{"x  1 2\n", 0, api.ErrSyntax, []string{"0 x [0 1] false\n"}},
		{strings.Repeat("x 1 2\n", 682) + "xxxx", 682, api.ErrSyntax, linesRead(682)},
		{strings.Repeat("x 1 2\n", 682) + "xxxxx", 0, api.ErrLong, nil},
	} {
		var in []string
		n, e := common.ReadLines(x.s, func(at int, w *common.Words) bool {
			word := w.Next()
			l, is := common.Integers(2, w.Next)
			in = append(in, fmt.Sprintln(at, word, l, is))
			return is
		})
		same(t, "ReadLines", all(i, n, e, in), all(i, x.n, x.e, x.in))
	}
}

func TestParseLines(t *testing.T) {
	check := func(l []string) api.Errno {
		return common.First(common.Failed(len(l) == 0, api.ErrEmpty), common.Failed(len(l) > 2, api.ErrMany))
	}
	for i, x := range []struct {
		s  string
		l  []string
		at int
		e  api.Errno
	}{
		{"x 1 -2\nx 3 4\n", []string{"[1 -2]", "[3 4]"}, 0, api.OK}, {"", nil, 0, api.ErrEmpty}, {strings.Repeat("x 1 2\n", 3), nil, 3, api.ErrMany},
		{"x 1 2\ny 1 2\n", nil, 1, api.ErrSyntax}, {"x 1\n", nil, 0, api.ErrSyntax}, {"x 1 2 3\n", nil, 0, api.ErrSyntax}, {strings.Repeat("x 1 2\n", 3) + "x", nil, 3, api.ErrSyntax}, {strings.Repeat("x 1 2\n", 683), nil, 0, api.ErrLong},
	} {
		l, at, e := common.ParseLines(x.s, "x", 2, func(l []int) string { return fmt.Sprint(l) }, check)
		same(t, "ParseLines", all(i, l, at, e), all(i, x.l, x.at, x.e))
	}
}

func TestParseEach(t *testing.T) {
	// a line is a word, and any number of integers
	read := func(w *common.Words) (string, bool) {
		word, left := w.Next(), w.Left()
		l, are := common.Integers(left, w.Next)
		return fmt.Sprint(word, left, l, w.Left()), are && word != ""
	}
	check := func(l []string) api.Errno { return common.Failed(len(l) > 2, api.ErrMany) }
	for i, x := range []struct {
		s  string
		l  []string
		at int
		e  api.Errno
	}{
		{"", nil, 0, api.OK}, {"x 1 -2\ny\n", []string{"x2 [1 -2] 0", "y0 [] 0"}, 0, api.OK}, {"x 1\nx\nx 1 2 3\n", nil, 3, api.ErrMany}, {"x 1 \n", nil, 0, api.ErrSyntax}, {"x 1\n\n", nil, 1, api.ErrSyntax}, {"x 1\nx 2", nil, 1, api.ErrSyntax}, {"x\nx\nx\nx a\n", nil, 3, api.ErrSyntax}, {strings.Repeat("x 12\n", 820), nil, 0, api.ErrLong},
	} {
		l, at, e := common.ParseEach(x.s, read, check)
		same(t, "ParseEach", all(i, l, at, e), all(i, x.l, x.at, x.e))
	}
}

func TestPoints(t *testing.T) {
	point := func(x, y int) api.Point { return api.Point{X: x, Y: y} }
	for p, want := range map[api.Point]api.Errno{point(0, 0): api.OK, point(-9, 9): api.OK, point(9, -9): api.OK, point(10, 0): api.ErrRange, point(0, 10): api.ErrRange, point(-10, 0): api.ErrRange, point(0, -10): api.ErrRange, point(math.MinInt, 0): api.ErrRange, point(0, math.MaxInt): api.ErrRange} {
		same(t, "CheckPoint", all(p, common.CheckPoint(p, 9)), all(p, want))
	}
	// to the left, on the line, to the right, and as large as can be
	a, b := point(1, 2), point(4, 3)
	same(t, "Cross", all(common.Cross(a, b, point(1, 5)), common.Cross(a, b, point(7, 4)), common.Cross(a, b, point(4, 2)), common.Cross(point(-1000000, -1000000), point(1000000, -1000000), point(1000000, 1000000))), all(9, 0, -3, 4000000000000))
}

// linesRead returns what is read of n lines that are `x 1 2`.
func linesRead(n int) []string {
	var l []string
	for i := range n {
		l = append(l, fmt.Sprintln(i, "x", []int{1, 2}, true))
	}
	return l
}
