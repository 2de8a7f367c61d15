package release

import (
	"strconv"

	"glideslope/api"
	"glideslope/common"
)

// fields returns the fields of a notice.
func (n Notice) fields() [6]string {
	return [6]string{
		strconv.Itoa(n.Number),
		n.Runway,
		strconv.Itoa(n.Issued),
		strconv.Itoa(n.From),
		strconv.Itoa(n.Until),
		strconv.Itoa(n.Category),
	}
}

// noticeOf returns the notice of fields, and whether all but the runway are integers.
func noticeOf(f [6]string) (Notice, bool) {
	integer := func(i int) int {
		n, _ := common.Count(f[i])
		return n
	}
	n := Notice{integer(0), f[1], integer(2), integer(3), integer(4), integer(5)}
	return n, n.fields() == f // what is no integer has been read as 0
}

// Fields returns the fields of a notice.
func Fields(n Notice) ([6]string, api.Errno) {
	if e := checkNotice(n); e != api.OK {
		return [6]string{}, e
	}
	return n.fields(), api.OK
}

// Read returns the notice of fields.
func Read(f [6]string) (Notice, api.Errno) {
	n, is := noticeOf(f)
	if e := common.First(common.Failed(!is, api.ErrSyntax), checkNotice(n)); e != api.OK {
		return Notice{}, e
	}
	return n, api.OK
}

// isAt reports whether a notice is of a runway at a tick.
func (n Notice) isAt(runway string, tick int) bool {
	return n.Runway == runway && n.From <= tick && tick < n.Until
}

// Category returns the category that notices leave to a runway at a tick.
func Category(l []Notice, runway string, most, tick int) (int, api.Errno) {
	if e := common.First(CheckNotices(l), checkName(runway), checkCategory(most), checkTick(tick)); e != api.OK {
		return 0, e
	}
	for _, n := range l {
		if n.isAt(runway, tick) {
			most = min(most, n.Category)
		}
	}
	return most, api.OK
}

// tells reports whether a notice tells a change so many ticks ahead.
func (n Notice) tells(c Change, ahead int) bool {
	return n.isAt(c.Runway, c.Tick) && n.Category <= c.Category && c.Tick-n.Issued >= ahead
}

// teller returns the first notice that tells a change ahead. If there is none, it is the zero value, which is no notice.
func teller(l []Notice, c Change, ahead int) Notice {
	for _, n := range l {
		if n.tells(c, ahead) {
			return n
		}
	}
	return Notice{}
}

// Unannounced returns the indices of the changes that no notice tells ahead.
func Unannounced(changes []Change, l []Notice, ahead int) ([]int, api.Errno) {
	if e := common.First(checkChanges(changes), CheckNotices(l), checkAhead(ahead)); e != api.OK {
		return nil, e
	}
	var indices []int
	for i, c := range changes {
		none := Notice{}
		if teller(l, c, ahead) == none {
			indices = append(indices, i)
		}
	}
	return indices, api.OK
}

// Drafted returns the notice of a change.
func Drafted(c Change, number, ahead, until int) (Notice, api.Errno) {
	e := common.First(
		checkChange(c),
		checkNumber(number),
		checkAhead(ahead),
		checkTick(until),
		common.Failed(c.Tick < ahead, api.ErrShort),
		common.Failed(until <= c.Tick, api.ErrOrder))
	if e != api.OK {
		return Notice{}, e
	}
	return Notice{number, c.Runway, c.Tick - ahead, c.Tick, until, c.Category}, api.OK
}
