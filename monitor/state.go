package monitor

import (
	"iter"

	"glideslope/api"
	"glideslope/common"
)

// outcome is the state after a second, with the names of the sensors that are in alarm in it.
type outcome struct {
	State
	alarms []string
}

// mode is what a mode means: whether a transmitter is on the air in it, and the outcome of a second in which no command has an effect.
type mode struct {
	isUseful bool
	next     func(p Plant, s State, l []Reading) outcome
}

// modes returns the modes by their numbers.
func modes() [5]mode {
	watchedMain := func(p Plant, s State, l []Reading) outcome { return p.watched(s, l, transfer(p.Silence)) }
	watchedStandby := func(p Plant, s State, l []Reading) outcome { return p.watched(s, l, State{Mode: Down}) }
	transferred := func(_ Plant, s State, _ []Reading) outcome { return outcome{State: transfer(s.Left - 1)} }
	unchanged := func(_ Plant, s State, _ []Reading) outcome { return outcome{State: s} }
	return [5]mode{
		Main:        {true, watchedMain},
		Transfer:    {false, transferred},
		Standby:     {true, watchedStandby},
		Down:        {false, unchanged},
		Maintenance: {false, unchanged},
	}
}

// isUseful reports whether a second with this state after it is useful.
func (s State) isUseful() bool { return modes()[s.Mode].isUseful }

// transfer returns the state of a transfer with so many seconds left, which is over if none is.
func transfer(left int) State {
	if left == 0 {
		return State{Mode: Standby}
	}
	return State{Mode: Transfer, Left: left}
}

// commanded returns the state after a command, which is the same one if the command has no effect.
func (s State) commanded(command int) State {
	switch {
	case command == Maintain:
		return State{Mode: Maintenance}
	case command == Resume && s.Mode == Maintenance, command == Reset && s.Mode == Down:
		return State{Mode: Main}
	}
	return s
}

// after returns the outcome of a second.
func (p Plant) after(s State, x Second) outcome {
	if by := s.commanded(x.Command); by != s {
		return outcome{State: by}
	}
	return modes()[s.Mode].next(p, s, x.Readings)
}

// counts reports whether a reading makes the count of a sensor grow.
func (x Sensor) counts(r Reading) bool { return r.Missing || x.sees(r.Needle) }

// counted returns the counts of all sensors with one second more.
func (p Plant) counted(counts [MaxSensors]int, l []Reading) [MaxSensors]int {
	for i, x := range p.Sensors {
		if x.counts(l[i]) {
			counts[i] = min(counts[i]+1, x.Delay)
		} else {
			counts[i] = 0
		}
	}
	return counts
}

// inAlarm returns the sensors whose count is their delay.
func (p Plant) inAlarm(counts [MaxSensors]int) []Sensor {
	var l []Sensor
	for i, x := range p.Sensors {
		if counts[i] == x.Delay {
			l = append(l, x)
		}
	}
	return l
}

// watched returns the outcome of a second in which the sensors may vote, with the state to which a vote leads.
func (p Plant) watched(s State, l []Reading, voted State) outcome {
	s.Counts = p.counted(s.Counts, l)
	if s.Counts == [MaxSensors]int{} {
		return outcome{State: s} // nothing is wrong, as in most seconds
	}
	alarmed := p.inAlarm(s.Counts)
	if p.vote(alarmed) {
		s = voted
	}
	return outcome{s, common.Mapped(alarmed, Sensor.name)}
}

// outcomes visits the outcomes of all seconds, with their indices.
func (p Plant) outcomes(l []Second) iter.Seq2[int, outcome] {
	return func(yield func(int, outcome) bool) {
		s := State{Mode: Main}
		for i, x := range l {
			o := p.after(s, x)
			if !yield(i, o) {
				return
			}
			s = o.State
		}
	}
}

// States returns the state after each second.
func States(p Plant, l []Second) ([]State, api.Errno) {
	if e := CheckSeconds(p, l); e != api.OK {
		return nil, e
	}
	var states []State
	for _, o := range p.outcomes(l) {
		states = append(states, o.State)
	}
	return states, api.OK
}

// Alarms returns the names of the sensors that are in alarm in each second.
func Alarms(p Plant, l []Second) ([][]string, api.Errno) {
	if e := CheckSeconds(p, l); e != api.OK {
		return nil, e
	}
	var alarms [][]string
	for _, o := range p.outcomes(l) {
		alarms = append(alarms, o.alarms)
	}
	return alarms, api.OK
}

// Silent returns the spans of seconds in which nothing useful is on the air.
func Silent(p Plant, l []Second) ([]api.Span, api.Errno) {
	if e := CheckSeconds(p, l); e != api.OK {
		return nil, e
	}
	var spans []api.Span
	for i, o := range p.outcomes(l) {
		if !o.isUseful() {
			spans = common.Widened(spans, i)
		}
	}
	return spans, api.OK
}

// Exposed returns the greatest number of successive useful seconds with a true needle outside of limits.
func Exposed(p Plant, l []Second, needles []int, limits api.Interval) (int, api.Errno) {
	if e := common.First(CheckSeconds(p, l), checkNeedles(needles, len(l)), checkLimits(limits)); e != api.OK {
		return 0, e
	}
	most, successive := 0, 0
	for i, o := range p.outcomes(l) {
		if o.isUseful() && !common.Within(needles[i], limits) {
			successive++
		} else {
			successive = 0
		}
		most = max(most, successive)
	}
	return most, api.OK
}
