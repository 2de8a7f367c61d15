package office

import (
	"strconv"
	"strings"

	"glideslope/api"
	"glideslope/common"
)

const enteredWord = "entered"

// lampWords has the words of the lamps.
var lampWords = [...]string{Dark: "dark", Green: "green", Yellow: "yellow", Red: "red"}

// Session is a console of the office.
type Session struct {
	events []api.Event
}

// question is how many names and integers a question has, and its answer.
type question struct {
	shape  [2]int
	answer func(l []api.Event, names []string, n []int) (string, api.Errno)
}

// questions returns the questions by their words.
func questions() map[string]question {
	return map[string]question{
		"reasons": {[2]int{1, 1}, func(l []api.Event, names []string, n []int) (string, api.Errno) {
			return listed(Reasons(l, names[0], n[0]))
		}},
		"usable": {[2]int{1, 2}, func(l []api.Event, names []string, n []int) (string, api.Errno) {
			return counted(Usable(l, names[0], n[0], n[1]))
		}},
		"rights": {[2]int{0, 1}, func(l []api.Event, _ []string, n []int) (string, api.Errno) {
			return listed(Rights(l, n[0]))
		}},
		"spares": {[2]int{1, 0}, func(l []api.Event, names []string, _ []int) (string, api.Errno) {
			return counted(Stock(l, names[0]))
		}},
		"why": {[2]int{1, 0}, func(l []api.Event, names []string, _ []int) (string, api.Errno) {
			return proved(Provenance(l, names[0]))
		}},
		"lamp": {[2]int{1, 1}, func(l []api.Event, names []string, n []int) (string, api.Errno) {
			return lit(l, names[0], n[0])
		}},
	}
}

// The following functions return a result as a string, without one beside an error.

func listed(words []string, err api.Errno) (string, api.Errno) {
	if err == api.OK && len(words) == 0 {
		return noneWord, err
	}
	return strings.Join(words, " "), err
}

func counted(n int, err api.Errno) (string, api.Errno) {
	if err != api.OK {
		return "", err
	}
	return strconv.Itoa(n), err
}

func proved(p Proof, err api.Errno) (string, api.Errno) {
	if err != api.OK {
		return "", err
	}
	return p.text(), err
}

// lit returns the word of a facility's lamp at a tick. Lamps has none at the last tick, at which its span could not end.
func lit(l []api.Event, facility string, tick int) (string, api.Errno) {
	j, err := knowing(l, Register.facilityAt, facility)
	if err != api.OK {
		return "", err
	}
	return lampWords[j.look(facility, tick).lamp()], api.OK
}

// New returns a session without events.
func New() *Session { return &Session{} }

// Open returns a session with the events of a log.
func Open(log string) (*Session, api.Errno) {
	l, _, err := Recover(log)
	if err != api.OK && err != api.ErrTorn {
		return nil, err
	}
	if _, _, err := replayed(l); err != api.OK {
		return nil, err
	}
	return &Session{l}, api.OK
}

// Do carries out a line of the console.
func (s *Session) Do(line string) (string, api.Errno) {
	switch {
	case s == nil:
		return "", api.ErrState
	case len(line) > api.MaxText:
		return "", api.ErrLong
	case line == "":
		return "", api.ErrSyntax
	}
	w := common.WordsOf(line)
	word := w.Next()
	if k, is := kinds()[word]; is {
		return s.enter(word, k, &w)
	}
	if q, is := questions()[word]; is {
		return s.answer(q, &w)
	}
	return "", api.ErrKind
}

// enter adds the event of a kind with the words of a line.
func (s *Session) enter(word string, k kind, w *common.Words) (string, api.Errno) {
	names, values, are := shaped(k.shape(), w)
	e := api.Event{Number: len(s.events) + 1, Kind: word, Names: names, Values: values}
	err := common.First(common.Failed(!are, api.ErrSyntax), checkEvents(s.events))
	if err != api.OK {
		return "", err
	}
	if err := Accepts(s.events, e); err != api.OK {
		return "", err
	}
	s.events = append(s.events, e)
	return enteredWord + " " + strconv.Itoa(e.Number), api.OK
}

// answer answers a question with the words of a line.
func (s *Session) answer(q question, w *common.Words) (string, api.Errno) {
	names, n, are := shaped(q.shape, w)
	if !are {
		return "", api.ErrSyntax
	}
	return q.answer(s.events, names, n)
}

// Events returns the events of a session.
func (s *Session) Events() []api.Event {
	if s == nil {
		return nil
	}
	return common.Mapped(s.events, copied)
}

// Log returns the log of a session.
func (s *Session) Log() string {
	if s == nil {
		return ""
	}
	return logOf(s.events)
}
