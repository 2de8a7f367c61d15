package office

import (
	"strconv"
	"strings"

	"glideslope/api"
	"glideslope/common"
)

const (
	sumMark   = "#"
	sumDigits = 7
	sumStart  = 19
	sumFactor = 257
	sumPrime  = 9999889
)

// bodyOf returns the body of an event.
func bodyOf(e api.Event) string {
	words := append([]string{strconv.Itoa(e.Number), e.Kind}, e.Names...)
	return strings.Join(append(words, common.Mapped(e.Values, strconv.Itoa)...), " ")
}

// checksum returns the checksum of a string.
func checksum(s string) string {
	x := sumStart
	for i := range len(s) {
		x = (sumFactor*x + int(s[i])) % sumPrime
	}
	digits := strconv.Itoa(x)
	return strings.Repeat("0", sumDigits-len(digits)) + digits
}

// recordOf returns the record of an event.
func recordOf(e api.Event) string {
	s := bodyOf(e)
	return s + sumMark + checksum(s) + "\n"
}

// logOf returns the log of events.
func logOf(l []api.Event) string { return strings.Join(common.Mapped(l, recordOf), "") }

// shaped takes as many names and values as a kind or a question has, and returns them, and whether the words of a line are these.
func shaped(shape [2]int, w *common.Words) ([]string, []int, bool) {
	take := w.Next
	names, isNamed := make([]string, shape[0]), true
	for i := range names {
		names[i] = take()
		isNamed = isNamed && names[i] != ""
	}
	values, are := common.Counts(shape[1], take)
	return names, values, isNamed && are && w.Left() == 0
}

// checked returns the body of a record without its line feed, or the error of its checksum.
func checked(text string) (string, api.Errno) {
	at := len(text) - sumDigits - len(sumMark)
	if at < 0 || text[at:at+len(sumMark)] != sumMark {
		return "", api.ErrSyntax
	}
	sum := text[at+len(sumMark):]
	for _, digit := range sum {
		if digit < '0' || digit > '9' {
			return "", api.ErrSyntax
		}
	}
	return text[:at], common.Failed(checksum(text[:at]) != sum, api.ErrCheck)
}

// eventOf returns the event of a body by the kinds of events, and whether it is one.
func eventOf(kinds map[string]kind, s string) (api.Event, bool) {
	w := common.WordsOf(s)
	number, isCount := common.Count(w.Next())
	word := w.Next()
	names, values, are := shaped(kinds[word].shape(), &w)
	e := api.Event{Number: number, Kind: word, Names: names, Values: values}
	return e, isCount && are && checkEvent(kinds, e) == api.OK
}

// recorded returns the event with a number of its record without the line feed by the kinds of events, or the error of the record.
func recorded(kinds map[string]kind, text string, number int) (api.Event, api.Errno) {
	s, err := checked(text)
	if err != api.OK {
		return api.Event{}, err
	}
	e, is := eventOf(kinds, s)
	return e, common.First(common.Failed(!is, api.ErrSyntax), common.Failed(e.Number != number, api.ErrOrder))
}

// Append returns a log with a further event.
func Append(log string, e api.Event) (string, api.Errno) {
	l, _, err := Recover(log)
	err = common.First(err, CheckEvent(e), common.Failed(e.Number != len(l)+1, api.ErrOrder))
	if err != api.OK {
		return "", err
	}
	out := log + recordOf(e)
	if len(out) > api.MaxLog { // MaxEvents records are never as long, but the chapter has this error
		return "", api.ErrLong
	}
	return out, api.OK
}

// Recover returns the events of the longest prefix that is a log, and its length.
func Recover(log string) ([]api.Event, int, api.Errno) {
	if len(log) > api.MaxLog {
		return nil, 0, api.ErrLong
	}
	var l []api.Event
	known, length := kinds(), 0
	lines := strings.SplitAfter(log, "\n") // the last one is what is behind all line feeds
	for i := range len(lines) - 1 {
		e, err := recorded(known, strings.TrimSuffix(lines[i], "\n"), i+1)
		if err != api.OK {
			return l, length, err
		}
		l = append(l, e)
		length += len(lines[i])
	}
	return l, length, common.Failed(length < len(log), api.ErrTorn)
}
