package office

import (
	"iter"
	"slices"

	"glideslope/api"
	"glideslope/common"
)

// step is an event that counts, with the register after it.
type step struct {
	api.Event
	after Register
}

// journal is the events that count, and the number of all events.
type journal struct {
	kinds  map[string]kind
	steps  []step
	number int
}

// last returns the register after all events.
func (j *journal) last() Register {
	if len(j.steps) == 0 {
		return Register{}
	}
	return j.steps[len(j.steps)-1].after
}

// accept carries out an event for which CheckEvent returns OK, or returns the error with which it is not accepted.
func (j *journal) accept(e api.Event) api.Errno {
	if e.Number != j.number+1 {
		return api.ErrOrder
	}
	carry := j.enter
	if e.Kind == undoWord {
		carry = j.undo
	}
	if err := carry(e); err != api.OK {
		return err
	}
	j.number++
	return api.OK
}

// undo takes back the last event that counts, or returns the error with which this is not accepted.
func (j *journal) undo(api.Event) api.Errno {
	last := len(j.steps) - 1
	if last < 0 {
		return api.ErrEmpty
	}
	if j.kinds[j.steps[last].Kind].isFinal {
		return api.ErrRule
	}
	j.steps = j.steps[:last]
	return api.OK
}

// enter carries out an event that counts, or returns the error with which it is not accepted.
func (j *journal) enter(e api.Event) api.Errno {
	k, r, tick := j.kinds[e.Kind], j.last(), e.Values[0]
	err := common.First(
		common.Failed(tick < r.Tick, api.ErrState),
		k.checkNames(r, e.Names),
		k.refusal(r, e))
	if err != api.OK {
		return err
	}
	r = k.effect(r, e)
	r.Tick = tick
	j.steps = append(j.steps, step{e, r})
	return api.OK
}

// replayed returns the journal of events, or the number of the first one with an error.
func replayed(l []api.Event) (*journal, int, api.Errno) {
	j := &journal{kinds: kinds()}
	if len(l) > api.MaxEvents {
		return j, 0, api.ErrMany
	}
	for i, e := range l {
		if err := checkEvent(j.kinds, e); err != api.OK {
			return j, i + 1, err
		}
		if err := j.accept(e); err != api.OK {
			return j, i + 1, err
		}
	}
	return j, 0, api.OK
}

// knowing returns the journal of events, and the error of Replay, or ErrUnknown if the register after them does not have what has a name, or OK.
func knowing(l []api.Event, at find, name string) (*journal, api.Errno) {
	j, _, err := replayed(l)
	return j, common.First(err, checkKnown(at(j.last(), name)))
}

// counting visits the events that count.
func (j *journal) counting() iter.Seq[api.Event] {
	return func(yield func(api.Event) bool) {
		for _, s := range j.steps {
			if !yield(s.Event) {
				return
			}
		}
	}
}

// registers visits the registers, each with the ticks as of which it is the one.
func (j *journal) registers() iter.Seq2[api.Span, Register] {
	return func(yield func(api.Span, Register) bool) {
		ticks, r := api.Span{}, Register{}
		for _, s := range j.steps {
			ticks.To = s.after.Tick
			if ticks.From < ticks.To && !yield(ticks, r) {
				return
			}
			ticks.From, r = ticks.To, s.after
		}
		ticks.To = api.MaxNumber + 1
		yield(ticks, r)
	}
}

// asOf returns the register as of a tick.
func (j *journal) asOf(tick int) Register {
	var out Register
	for ticks, r := range j.registers() {
		if ticks.From <= tick {
			out = r
		}
	}
	return out
}

// concerns reports whether an event concerns a facility.
func (f Facility) concerns(e api.Event) bool {
	switch e.Kind {
	case runwayWord:
		return e.Names[0] == f.Runway
	case grantWord:
		return true
	case stockWord, takeWord:
		return false
	}
	return e.Names[0] == f.Name
}

// Replay returns the register after events, or the number of the first one with an error.
func Replay(l []api.Event) (Register, int, api.Errno) {
	j, number, err := replayed(l)
	if err != api.OK {
		return Register{}, number, err
	}
	return j.last(), 0, api.OK
}

// Accepts returns OK for an event that is accepted after events.
func Accepts(l []api.Event, e api.Event) api.Errno {
	j, _, err := replayed(l)
	err = common.First(err, CheckEvent(e), checkEvents(l))
	if err != api.OK {
		return err
	}
	return j.accept(e)
}

// AsOf returns the register as of a tick.
func AsOf(l []api.Event, tick int) (Register, api.Errno) {
	j, _, err := replayed(l)
	err = common.First(err, checkTick(tick))
	if err != api.OK {
		return Register{}, err
	}
	return j.asOf(tick), api.OK
}

// Story returns the events that concern a facility.
func Story(l []api.Event, facility string) ([]api.Event, api.Errno) {
	j, err := knowing(l, Register.facilityAt, facility)
	if err != api.OK {
		return nil, err
	}
	f := j.last().facility(facility)
	var story []api.Event
	for e := range j.counting() {
		if f.concerns(e) {
			e.Number = len(story) + 1
			story = append(story, copied(e))
		}
	}
	return story, api.OK
}

// copied returns an event that shares no memory with another one.
func copied(e api.Event) api.Event {
	e.Names, e.Values = slices.Clone(e.Names), slices.Clone(e.Values)
	return e
}
