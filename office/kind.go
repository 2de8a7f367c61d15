package office

import (
	"glideslope/api"
	"glideslope/common"
)

// The words of the kinds that are not only found in the table of kinds.
const (
	undoWord   = "undo"
	runwayWord = "runway"
	grantWord  = "grant"
	stockWord  = "stock"
	takeWord   = "take"
)

// find returns the index of what has a name, or a number below 0.
type find func(r Register, name string) int

// kind is how what an event names is found, how many values the event has, whether it is for good, with which error a register refuses it, and its effect.
type kind struct {
	names   []find // nil for a name that may be new
	values  int
	isFinal bool
	refusal func(r Register, e api.Event) api.Errno
	effect  func(r Register, e api.Event) Register
}

// kinds returns the kinds of events by their words.
func kinds() map[string]kind {
	facility := []find{Register.facilityAt}
	worker := []find{Register.facilityAt, Register.technicianAt}
	return map[string]kind{
		runwayWord: {names: []find{nil}, values: 1, refusal: refuseRunway, effect: addRunway},
		"facility": {names: []find{nil, Register.runwayAt}, values: 2, refusal: refuseFacility, effect: addFacility},
		grantWord:  {names: []find{nil}, values: 2, refusal: refuseGrant, effect: grantRights},
		"adjust":   {names: worker, values: 1, refusal: refuseAdjustment, effect: changes(adjust)},
		"inspect":  {names: worker, values: 2, isFinal: true, refusal: refuseInspection, effect: changes(inspect)},
		"on":       {names: facility, values: 1, refusal: refuseOn, effect: changes(turnOn)},
		"off":      {names: facility, values: 1, refusal: refuseOff, effect: changes(turnOff)},
		"alarm":    {names: facility, values: 1, isFinal: true, refusal: refuseAlarm, effect: changes(alarm)},
		"reset":    {names: worker, values: 1, isFinal: true, refusal: refuseReset, effect: changes(reset)},
		stockWord:  {names: []find{nil}, values: 2, refusal: refuseStock, effect: addParts},
		takeWord:   {names: []find{Register.partAt, Register.facilityAt}, values: 2, refusal: refuseTake, effect: takeParts},
		undoWord:   {},
	}
}

// shape returns how many names and values an event has.
func (k kind) shape() [2]int { return [2]int{len(k.names), k.values} }

// checkNames returns ErrUnknown if one of the names is not in a register, or OK.
func (k kind) checkNames(r Register, names []string) api.Errno {
	for i, at := range k.names {
		if at != nil && at(r, names[i]) < 0 {
			return api.ErrUnknown
		}
	}
	return api.OK
}

// The following functions return the error with which a register refuses an event, by its kind.

func refuseRunway(r Register, e api.Event) api.Errno {
	at := r.runwayAt(e.Names[0])
	return common.First(checkNew(at), checkRoom(at, len(r.Runways), MaxRunways))
}

func refuseFacility(r Register, e api.Event) api.Errno {
	at := r.facilityAt(e.Names[0])
	return common.First(
		checkNew(at),
		common.Between(e.Values[1], 1, MaxPeriod),
		checkRoom(at, len(r.Facilities), MaxFacilities))
}

func refuseGrant(r Register, e api.Event) api.Errno {
	return common.First(
		common.Failed(e.Values[1] < e.Values[0], api.ErrOld),
		checkRoom(r.technicianAt(e.Names[0]), len(r.Technicians), MaxTechnicians))
}

func refuseAdjustment(r Register, e api.Event) api.Errno {
	return common.First(
		checkRight(r, e),
		common.Failed(r.facility(e.Names[0]).Air, api.ErrOpen))
}

func refuseInspection(r Register, e api.Event) api.Errno {
	return common.First(
		checkRight(r, e),
		common.Between(e.Values[1], 0, MaxCategory),
		common.Failed(r.facility(e.Names[0]).Adjuster == e.Names[1], api.ErrHeld))
}

func refuseOn(r Register, e api.Event) api.Errno {
	f := r.facility(e.Names[0])
	return common.First(common.Failed(f.Air, api.ErrHeld), common.Failed(f.Alarm, api.ErrLocked))
}

func refuseOff(r Register, e api.Event) api.Errno {
	return common.Failed(!r.facility(e.Names[0]).Air, api.ErrNone)
}

func refuseAlarm(r Register, e api.Event) api.Errno {
	return common.Failed(r.facility(e.Names[0]).Alarm, api.ErrHeld)
}

func refuseReset(r Register, e api.Event) api.Errno {
	return common.First(
		checkRight(r, e),
		common.Failed(!r.facility(e.Names[0]).Alarm, api.ErrNone))
}

func refuseStock(r Register, e api.Event) api.Errno {
	name, count := e.Names[0], e.Values[1]
	return common.First(
		checkCount(count),
		checkRoom(r.partAt(name), len(r.Parts), MaxParts),
		common.Failed(r.part(name).Count+count > MaxCount, api.ErrLarge))
}

func refuseTake(r Register, e api.Event) api.Errno {
	count := e.Values[1]
	return common.First(
		checkCount(count),
		common.Failed(r.part(e.Names[0]).Count < count, api.ErrShort))
}
