package release

import (
	"strings"

	"glideslope/api"
	"glideslope/common"
)

const noticeWord = "notice"

// Print returns the string of notices.
func Print(l []Notice) (string, api.Errno) {
	if e := CheckNotices(l); e != api.OK {
		return "", e
	}
	return strings.Join(common.Mapped(l, Notice.line), ""), api.OK
}

// line returns the line of a notice.
func (n Notice) line() string {
	fields := n.fields()
	return common.Line(append([]string{noticeWord}, fields[:]...)...)
}

// Parse returns the notices of a string, and the index of the first line that is wrong.
func Parse(s string) ([]Notice, int, api.Errno) {
	return common.ParseEach(s, readNotice, CheckNotices)
}

// readNotice reads the line of a notice, and reports whether it is one.
func readNotice(w *common.Words) (Notice, bool) {
	take := w.Next
	word := take()
	var fields [6]string
	for i := range fields {
		fields[i] = take()
	}
	n, is := noticeOf(fields)
	return n, word == noticeWord && is && n.Runway != ""
}
