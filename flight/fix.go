package flight

import (
	"slices"

	"glideslope/api"
	"glideslope/common"
)

// box is three intervals of places.
type box = [3]api.Interval

// upright returns a box whose intervals are ordered: the lesser end of each one is its Low.
func upright(b box) box {
	for i, x := range b {
		b[i] = common.Reach(x.Low, x.High)
	}
	return b
}

// met returns the box in which fixes meet, and whether they meet.
func met(l []Fix) (box, bool) {
	var out box
	for i := range out {
		out[i] = api.Interval{Low: -MaxPlace, High: MaxPlace}
		for _, f := range l {
			out[i] = common.Shared(out[i], f.Box[i])
		}
	}
	return out, out == upright(out)
}

// Meet returns the box in which fixes meet.
func Meet(l []Fix) ([3]api.Interval, api.Errno) {
	if e := checkFixes(l); e != api.OK {
		return box{}, e
	}
	b, meet := met(l)
	if !meet {
		return box{}, api.ErrConflict
	}
	return b, api.OK
}

// isOdd reports whether all fixes but the one with an index meet: a single other one meets in its own box.
func isOdd(l []Fix, i int) bool {
	_, meet := met(slices.Concat(l[:i], l[i+1:]))
	return meet
}

// Odd returns the index of the odd one of fixes that conflict.
func Odd(l []Fix) (int, api.Errno) {
	if e := checkFixes(l); e != api.OK {
		return 0, e
	}
	if _, meet := met(l); meet {
		return 0, api.ErrEmpty
	}
	for i := range l {
		if isOdd(l, i) {
			return i, api.OK
		}
	}
	return 0, api.ErrNone
}
