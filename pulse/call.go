package pulse

import (
	"iter"

	"glideslope/api"
	"glideslope/common"
)

// history is a station with the calls before one, and those of them that it answered.
type history struct {
	Station
	calls    []int
	answered []int
}

// isSoon reports whether a call is at most so many ticks after the last one of those before it.
func isSoon(call int, before []int, most int) bool {
	n := len(before)
	return n > 0 && call-before[n-1] <= most
}

// isDead reports whether the dead time is not over at a call.
func (h history) isDead(call int) bool { return isSoon(call, h.answered, h.Dead) }

// isEcho reports whether the echo time is not over at a call.
func (h history) isEcho(call int) bool { return isSoon(call, h.calls, h.Echo) }

// isLoad reports whether the most calls have been answered in the window before a call.
func (h history) isLoad(call int) bool {
	late := common.Where(h.answered, func(tick int) bool { return tick > call-h.Window })
	return len(late) >= h.Most
}

// rule is a reason for which calls are given up, and when it applies.
type rule struct {
	reason  string
	applies func(h history, call int) bool
}

func (r rule) name() string { return r.reason }

// rules returns the rules in the order in which they are asked.
func rules() []rule {
	return []rule{
		{"dead", history.isDead},
		{"echo", history.isEcho},
		{"load", history.isLoad},
	}
}

// isAnswered reports whether a call is answered.
func (a Answer) isAnswered() bool { return a.Reason == "" }

// answer returns what becomes of a call.
func (h history) answer(call int) Answer {
	for _, r := range rules() {
		if r.applies(h, call) {
			return Answer{None, r.reason}
		}
	}
	return Answer{Reply: call + h.Delay}
}

// answers visits what becomes of all calls, with their indices.
func (s Station) answers(calls []int) iter.Seq2[int, Answer] {
	return func(yield func(int, Answer) bool) {
		var answered []int
		for i, call := range calls {
			a := history{s, calls[:i], answered}.answer(call)
			if !yield(i, a) {
				return
			}
			if a.isAnswered() {
				answered = append(answered, call)
			}
		}
	}
}

// Answers returns what becomes of each call.
func Answers(s Station, calls []int) ([]Answer, api.Errno) {
	if e := common.First(CheckStation(s), checkCalls(calls)); e != api.OK {
		return nil, e
	}
	var l []Answer
	for _, a := range s.answers(calls) {
		l = append(l, a)
	}
	return l, api.OK
}

// checkReason returns the error of a reason, or OK.
func checkReason(reason string) api.Errno {
	_, is := common.Indices(rules(), rule.name)[reason]
	return common.Failed(!is, api.ErrUnknown)
}

// Given returns the indices of the calls that are given up for a reason.
func Given(s Station, calls []int, reason string) ([]int, api.Errno) {
	if e := common.First(CheckStation(s), checkCalls(calls), checkReason(reason)); e != api.OK {
		return nil, e
	}
	var l []int
	for i, a := range s.answers(calls) {
		if a.Reason == reason {
			l = append(l, i)
		}
	}
	return l, api.OK
}
