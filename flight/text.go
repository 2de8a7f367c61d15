package flight

import (
	"strconv"
	"strings"

	"glideslope/api"
	"glideslope/common"
)

const markWord = "mark"

// flagWords has the words of marks without and with a flag.
var flagWords = [2]string{"0", "1"}

// flagWord returns the word of a mark's flag.
func (m Mark) flagWord() string {
	if m.Flag {
		return flagWords[1]
	}
	return flagWords[0]
}

// isFlag returns whether a word is that of a flag, and whether it is one of both.
func isFlag(word string) (bool, bool) {
	for i, w := range flagWords {
		if word == w {
			return i == 1, true
		}
	}
	return false, false
}

// Print returns the string of a run.
func Print(l []Mark) (string, api.Errno) {
	if e := CheckRun(l); e != api.OK {
		return "", e
	}
	return strings.Join(common.Mapped(l, Mark.line), ""), api.OK
}

// line returns the line of a mark.
func (m Mark) line() string {
	return common.Line(markWord, strconv.Itoa(m.Position), strconv.Itoa(m.Needle), m.flagWord())
}

// Parse returns the run of a string, and the index of the first line that is wrong.
func Parse(s string) ([]Mark, int, api.Errno) { return common.ParseEach(s, readMark, CheckRun) }

// readMark reads the line of a mark, and reports whether it is one.
func readMark(w *common.Words) (Mark, bool) {
	take := w.Next
	word := take()
	numbers, are := common.Integers(2, take)
	flag, isOne := isFlag(take())
	return Mark{numbers[0], numbers[1], flag}, word == markWord && are && isOne
}
