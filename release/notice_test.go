package release_test

import (
	"fmt"
	"slices"
	"strconv"
	"testing"

	"glideslope/api"
	"glideslope/release"
)

// The tests of this file are those of P9.3 for notices.

func TestCheckNotices(t *testing.T) {
	for i, l := range [][]release.Notice{noticesN, nil, manyNotices(32), {notice(1, "a", 0, 0, 1, 0), notice(999999999, "a", 99999999, 99999999, 100000000, 3)}, {notice(5, "a", 0, 100, 200, 3), notice(6, "a", 0, 100, 200, 3)}} {
		same(t, "CheckNotices", all(i, release.CheckNotices(l)), all(i, api.OK))
	}
	checkErrors(t, "CheckNotices", func(a []any) []any { return all(release.CheckNotices(a[0].([]release.Notice))) }, nil, argumentOf(noticesN, badNoticeLists()))
}

func TestFields(t *testing.T) {
	for i, x := range []struct {
		n release.Notice
		f [6]string
	}{
		{noticesN[0], [6]string{"7", "r9", "100", "160", "400", "1"}}, // the chapter's example
		{notice(999999999, "abcdefghijklmnopqrstuvwx", 0, 0, 1, 0), [6]string{"999999999", "abcdefghijklmnopqrstuvwx", "0", "0", "1", "0"}}, {notice(1, "A_1", 99999999, 99999999, 100000000, 3), [6]string{"1", "A_1", "99999999", "99999999", "100000000", "3"}},
	} {
		same(t, "Fields, Read", all(i, fielded(x.n), read(x.f)), all(i, all(x.f, api.OK), all(x.n, api.OK)))
	}
	checkErrors(t, "Fields", func(a []any) []any { return fielded(a[0].(release.Notice)) }, all([6]string{}), argumentOf(noticesN[0], badNotices()))
}

// badFields returns fields with their errors.
func badFields() []bad[[6]string] {
	good := [6]string{"7", "r9", "100", "160", "400", "1"}
	var out []bad[[6]string]
	for _, i := range indices(0, 2, 3, 4, 5) {
		for _, word := range words("", "-0", "-1", "+1", "01", "00", "000000001", "1000000000", "99999999999999999999", "1.", "1.0", "0x1", "1_0", "1e1", " 1", "1 ", "a", "1a", "a1", "\u0661", "\xff", "1\xff", ":", "/", "1\n", "\x00") {
			for _, runway := range words("r9", "", "9", "r 9") { // before the name
				f := good
				f[i], f[1] = word, runway
				out = append(out, bad[[6]string]{f, api.ErrSyntax})
			}
			f := [6]string{"0", "", "9", "5", "5", "9"} // before the ranges
			f[i] = word
			out = append(out, bad[[6]string]{f, api.ErrSyntax})
		}
	}
	for _, x := range badNotices() {
		f := [6]string{strconv.Itoa(x.x.Number), x.x.Runway, strconv.Itoa(x.x.Issued), strconv.Itoa(x.x.From), strconv.Itoa(x.x.Until), strconv.Itoa(x.x.Category)}
		e := x.e
		for i, word := range f {
			if i != 1 && (len(word) > 9 || word[0] == '-') {
				e = api.ErrSyntax
			}
		}
		out = append(out, bad[[6]string]{f, e})
	}
	return append(out, bad[[6]string]{[6]string{}, api.ErrSyntax}, bad[[6]string]{[6]string{"r9", "7", "100", "160", "400", "1"}, api.ErrSyntax})
}

func TestRead(t *testing.T) {
	checkErrors(t, "Read", func(a []any) []any { return read(a[0].([6]string)) }, all(release.Notice{}), argumentOf([6]string{"7", "r9", "100", "160", "400", "1"}, badFields()))
}

func TestCategory(t *testing.T) {
	for tick, want := range map[int]int{0: 3, 100: 3, 150: 3, 159: 3, 160: 1, 299: 1, 300: 0, 399: 0, 400: 0, 499: 0, 500: 3, 501: 3, 100000000: 3} {
		same(t, "Category", all(tick, left(noticesN, "r9", 3, tick)), all(tick, all(want, api.OK))) // the chapter's example
	}
	first := noticesN[:1]
	for i, x := range []struct {
		l      []release.Notice
		runway string
		most   int
		tick   int
		want   int
	}{
		{nil, "r9", 3, 200, 3}, {nil, "r9", 0, 0, 0}, {first, "r9", 3, 200, 1}, {first, "r9", 2, 200, 1}, {first, "r9", 1, 200, 1}, {first, "r9", 0, 200, 0}, {first, "r8", 3, 200, 3}, {first, "R9", 3, 200, 3}, {first, "r9x", 2, 200, 2}, {first, "r9", 3, 399, 1}, {first, "r9", 3, 400, 3},
		{[]release.Notice{notice(1, "r9", 0, 0, 9, 2), notice(2, "r9", 0, 0, 9, 3)}, "r9", 3, 5, 2}, {[]release.Notice{notice(1, "r9", 0, 0, 9, 3), notice(2, "r9", 0, 0, 9, 3)}, "r9", 3, 5, 3}, {[]release.Notice{notice(1, "r8", 0, 0, 9, 0), notice(2, "r9", 0, 5, 6, 1)}, "r9", 3, 5, 1},
		{[]release.Notice{notice(1, "a", 99999999, 99999999, 100000000, 0)}, "a", 3, 99999999, 0}, {[]release.Notice{notice(1, "a", 99999999, 99999999, 100000000, 0)}, "a", 3, 100000000, 3}, {[]release.Notice{notice(1, "a", 0, 0, 1, 0)}, "a", 3, 0, 0}, {[]release.Notice{notice(1, "a", 0, 0, 1, 0)}, "a", 3, 1, 3},
	} {
		same(t, "Category", all(i, left(x.l, x.runway, x.most, x.tick)), all(i, all(x.want, api.OK)))
	}
	checkErrors(t, "Category", func(a []any) []any {
		return left(a[0].([]release.Notice), a[1].(string), a[2].(int), a[3].(int))
	}, all(0), argumentOf(noticesN, badNoticeLists()), argumentOf("r9", badRunwayNames()), argumentOf(3, badCategories), argumentOf(5, badTicks))
}

func TestUnannounced(t *testing.T) {
	second := noticesN[1:]
	for i, x := range []struct {
		changes []release.Change
		l       []release.Notice
		ahead   int
		want    []int
	}{
		{[]release.Change{change6}, noticesN, 60, nil}, {[]release.Change{change6}, noticesN, 61, indices(0)}, // the chapter's example
		{nil, noticesN, 0, nil}, {nil, nil, 0, nil}, {[]release.Change{change6, change6}, nil, 0, indices(0, 1)},
		// the runway, the category, the ticks
		{[]release.Change{change("r8", 160, 1), change6, change("R9", 160, 1)}, noticesN, 0, indices(0, 2)}, {[]release.Change{change("r9", 160, 0), change("r9", 160, 1), change("r9", 160, 2), change("r9", 160, 3)}, noticesN, 0, indices(0)},
		{[]release.Change{change("r9", 159, 3), change("r9", 160, 3), change("r9", 399, 3), change("r9", 400, 3)}, noticesN[:1], 0, indices(0, 3)}, {[]release.Change{change("r9", 299, 0), change("r9", 300, 0), change("r9", 499, 0), change("r9", 500, 0)}, second, 0, indices(0, 3)},
		// ahead of the change, not of the notice's first tick
		{[]release.Change{change("r9", 300, 0), change("r9", 301, 0), change("r9", 310, 0)}, second, 151, indices(0)}, {[]release.Change{change("r9", 300, 0), change("r9", 301, 0), change("r9", 310, 0)}, second, 160, indices(0, 1)}, {[]release.Change{change("r9", 300, 0), change("r9", 350, 1)}, noticesN, 250, indices(0)}, {[]release.Change{change("r9", 300, 0), change("r9", 350, 1)}, noticesN, 251, indices(0, 1)},
		{[]release.Change{change("a", 1000, 0), change("a", 999, 0)}, []release.Notice{notice(1, "a", 0, 0, 2000, 0)}, 1000, indices(1)}, {[]release.Change{change("a", 0, 0)}, []release.Notice{notice(1, "a", 0, 0, 1, 0)}, 0, nil}, {[]release.Change{change("a", 0, 0)}, []release.Notice{notice(1, "a", 0, 0, 1, 0)}, 1, indices(0)}, {[]release.Change{change("a", 100000000, 3)}, []release.Notice{notice(1, "a", 0, 0, 100000000, 0)}, 0, indices(0)},
		// any one of the notices
		{[]release.Change{change("r9", 350, 0), change("r9", 350, 1), change("r9", 450, 0)}, noticesN, 10, nil}, {slices.Repeat([]release.Change{change6}, 32), noticesN, 0, nil},
	} {
		same(t, "Unannounced", all(i, unannounced(x.changes, x.l, x.ahead)), all(i, all(x.want, api.OK)))
	}
	checkErrors(t, "Unannounced", func(a []any) []any {
		return unannounced(a[0].([]release.Change), a[1].([]release.Notice), a[2].(int))
	}, all(indices()), argumentOf([]release.Change{change6}, badChangeLists()), argumentOf(noticesN, badNoticeLists()), argumentOf(5, badAheads))
}

func TestDrafted(t *testing.T) {
	for i, x := range []struct {
		c                    release.Change
		number, ahead, until int
		want                 release.Notice
		e                    api.Errno
	}{
		{change6, 9, 60, 400, notice(9, "r9", 100, 160, 400, 1), api.OK}, // the chapter's example
		{change6, 1, 0, 161, notice(1, "r9", 160, 160, 161, 1), api.OK}, {change6, 999999999, 160, 100000000, notice(999999999, "r9", 0, 160, 100000000, 1), api.OK}, {change("a", 0, 0), 5, 0, 1, notice(5, "a", 0, 0, 1, 0), api.OK}, {change("a", 1000, 3), 5, 1000, 1001, notice(5, "a", 0, 1000, 1001, 3), api.OK},
		{change6, 9, 161, 400, release.Notice{}, api.ErrShort}, {change6, 9, 1000, 400, release.Notice{}, api.ErrShort}, {change("a", 999, 0), 5, 1000, 5000, release.Notice{}, api.ErrShort}, {change("a", 0, 0), 5, 1, 9, release.Notice{}, api.ErrShort},
		{change6, 9, 60, 160, release.Notice{}, api.ErrOrder}, {change6, 9, 60, 0, release.Notice{}, api.ErrOrder}, {change6, 9, 160, 159, release.Notice{}, api.ErrOrder}, {change("a", 100000000, 0), 5, 1, 100000000, release.Notice{}, api.ErrOrder},
		{change6, 9, 161, 160, release.Notice{}, api.ErrShort}, {change6, 9, 161, -1, release.Notice{}, api.ErrRange}, {change6, 9, 1001, -1, release.Notice{}, api.ErrRange}, // the order of the errors
	} {
		same(t, "Drafted", all(i, drafted(x.c, x.number, x.ahead, x.until)), all(i, all(x.want, x.e)))
	}
	checkErrors(t, "Drafted", func(a []any) []any {
		return drafted(a[0].(release.Change), a[1].(int), a[2].(int), a[3].(int))
	}, all(release.Notice{}), argumentOf(change6, badChanges()), argumentOf(9, badIDs), argumentOf(161, badAheads), argumentOf(100, badTicks))
}

func TestNoticesInOtherWords(t *testing.T) {
	r := numbers{7}
	counts := map[string]int{}
	for range 5000 {
		l, most, ahead := r.notices(12, 20), r.below(4), r.below(20)
		var changes []release.Change
		for range r.below(8) {
			changes = append(changes, r.change(60))
		}
		name, tick := r.name(), r.below(60)
		same(t, "Category, Unannounced", all(l, name, most, tick, changes, ahead, left(l, name, most, tick), unannounced(changes, l, ahead)), all(l, name, most, tick, changes, ahead, all(leftOf(l, name, most, tick), api.OK), all(untoldOf(changes, l, ahead), api.OK)))
		for i := range changes {
			counts[fmt.Sprint("untold ", slices.Contains(untoldOf(changes, l, ahead), i))]++
		}
		counts[fmt.Sprint("less ", leftOf(l, name, most, tick) < most)]++
	}
	same(t, "are there both", all(counts["untold true"] > 1000, counts["untold false"] > 1000, counts["less true"] > 300, counts["less false"] > 300), all(true, true, true, true))
}
