package office

import (
	"slices"

	"glideslope/api"
	"glideslope/common"
)

// leastVisibilities has the least visibility for which each category is enough.
var leastVisibilities = [MaxCategory]int{550, 300, 100}

const noneWord = "none"

// look is a facility with its runway, as of a tick. It has no name if there is no such facility yet.
type look struct {
	Facility
	tick int
}

// look returns a facility as of a tick.
func (j *journal) look(facility string, tick int) look {
	return look{j.asOf(tick).facility(facility), tick}
}

// looks returns all facilities as of a tick.
func (j *journal) looks(tick int) []look {
	return common.Mapped(j.asOf(tick).Facilities, func(f Facility) look { return look{f, tick} })
}

// name returns the name of a facility.
func (x look) name() string { return x.Name }

// faults returns the reasons for which a facility is not in service. Without an inspection there is no category.
func faults() []common.Reason[look] {
	return []common.Reason[look]{
		{Word: "inspection", Applies: func(x look) bool { return x.Category == 0 }},
		{Word: "due", Applies: func(x look) bool { return x.Inspected != None && x.tick-x.Inspected > x.Period }},
		{Word: "adjusted", Applies: func(x look) bool { return x.Touched }},
		{Word: "alarm", Applies: func(x look) bool { return x.Alarm }},
		{Word: "off", Applies: func(x look) bool { return !x.Air }},
	}
}

// reasons returns the words of the reasons for which a facility is not in service.
func (x look) reasons() []string {
	if x.Name == "" {
		return []string{noneWord}
	}
	return common.Applying(faults(), x)
}

// isInService reports whether a facility is in service.
func (x look) isInService() bool { return len(x.reasons()) == 0 }

// isDue reports whether an inspection of a facility is due within some ticks.
func (x look) isDue(within int) bool {
	return x.Inspected == None || x.Inspected+x.Period < x.tick+within
}

// lamp returns the lamp of a facility.
func (x look) lamp() int {
	switch {
	case x.Alarm:
		return Red
	case x.isInService():
		return Green
	case x.Air:
		return Yellow
	}
	return Dark
}

// category returns the category of a runway with these facilities.
func category(l []look) int {
	if len(l) == 0 || !all(l, look.isInService) {
		return 0
	}
	return slices.Min(common.Mapped(l, func(x look) int { return x.Category }))
}

// usable returns a category if it is enough for a visibility, or 0.
func usable(category, visibility int) int {
	if category == 0 || visibility < leastVisibilities[category-1] {
		return 0
	}
	return category
}

// onAir returns the spans of ticks, within the given one, in which a facility is on the air.
func (j *journal) onAir(facility string, within api.Span) []api.Span {
	var spans []api.Span
search:
	for ticks, r := range j.registers() {
		part := api.Span{From: max(ticks.From, within.From), To: min(ticks.To, within.To)}
		switch {
		case ticks.From >= within.To:
			break search
		case part.From < part.To && r.facility(facility).Air:
			spans = common.Joined(spans, part)
		}
	}
	return spans
}

// validAt returns the technicians whose rights are valid at a tick.
func (r Register) validAt(tick int) []string {
	valid := common.Where(r.Technicians, func(t Technician) bool { return t.isValid(tick) })
	return common.Mapped(valid, func(t Technician) string { return t.Name })
}

// Reasons returns why a facility is not in service at a tick.
func Reasons(l []api.Event, facility string, tick int) ([]string, api.Errno) {
	j, err := knowing(l, Register.facilityAt, facility)
	err = common.First(err, checkTick(tick))
	if err != api.OK {
		return nil, err
	}
	return j.look(facility, tick).reasons(), api.OK
}

// Serviceable returns the facilities in service at a tick.
func Serviceable(l []api.Event, tick int) ([]string, api.Errno) {
	j, _, err := replayed(l)
	err = common.First(err, checkTick(tick))
	if err != api.OK {
		return nil, err
	}
	inService := common.Where(j.looks(tick), look.isInService)
	return common.Mapped(inService, look.name), api.OK
}

// Usable returns the category of a runway at a tick in a visibility.
func Usable(l []api.Event, runway string, tick, visibility int) (int, api.Errno) {
	j, err := knowing(l, Register.runwayAt, runway)
	err = common.First(
		err,
		checkTick(tick),
		common.Between(visibility, 0, MaxVisibility))
	if err != api.OK {
		return 0, err
	}
	own := common.Where(j.looks(tick), func(x look) bool { return x.Runway == runway })
	return usable(category(own), visibility), api.OK
}

// Due returns the facilities whose next inspection is due within some ticks.
func Due(l []api.Event, tick, within int) ([]string, api.Errno) {
	j, _, err := replayed(l)
	err = common.First(err, checkTick(tick), common.Between(within, 0, MaxPeriod))
	if err != api.OK {
		return nil, err
	}
	due := common.Where(j.looks(tick), func(x look) bool { return x.isDue(within) })
	return common.Mapped(due, look.name), api.OK
}

// Lamps returns the lamp of a facility at each tick of a span.
func Lamps(l []api.Event, facility string, ticks api.Span) ([]int, api.Errno) {
	j, err := knowing(l, Register.facilityAt, facility)
	err = common.First(
		err,
		checkTicks(ticks),
		common.Failed(ticks.To-ticks.From > MaxLamps, api.ErrLarge))
	if err != api.OK {
		return nil, err
	}
	var lamps []int
	for tick := ticks.From; tick < ticks.To; tick++ {
		lamps = append(lamps, j.look(facility, tick).lamp())
	}
	return lamps, api.OK
}

// OnAir returns the spans of ticks in which a facility is on the air.
func OnAir(l []api.Event, facility string, ticks api.Span) ([]api.Span, api.Errno) {
	j, err := knowing(l, Register.facilityAt, facility)
	err = common.First(err, checkTicks(ticks))
	if err != api.OK {
		return nil, err
	}
	return j.onAir(facility, ticks), api.OK
}

// Rights returns the technicians whose rights are valid at a tick.
func Rights(l []api.Event, tick int) ([]string, api.Errno) {
	j, _, err := replayed(l)
	err = common.First(err, checkTick(tick))
	if err != api.OK {
		return nil, err
	}
	return j.asOf(tick).validAt(tick), api.OK
}

// Inspectors returns the technicians who may inspect a facility at a tick.
func Inspectors(l []api.Event, facility string, tick int) ([]string, api.Errno) {
	j, err := knowing(l, Register.facilityAt, facility)
	err = common.First(err, checkTick(tick))
	if err != api.OK {
		return nil, err
	}
	r := j.asOf(tick)
	f := r.facility(facility)
	if f.Name == "" {
		return nil, api.OK
	}
	return common.Where(r.validAt(tick), func(name string) bool { return name != f.Adjuster }), api.OK
}

// Stock returns how many spares of a part there are.
func Stock(l []api.Event, part string) (int, api.Errno) {
	j, err := knowing(l, Register.partAt, part)
	if err != api.OK {
		return 0, err
	}
	return j.last().part(part).Count, api.OK
}
