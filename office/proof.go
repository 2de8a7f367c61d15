package office

import (
	"strconv"
	"strings"

	"glideslope/api"
	"glideslope/common"
	"glideslope/record"
)

const nobodyWord = "-"

// proof returns the provenance of a facility.
func (f Facility) proof() Proof {
	return Proof{
		Facility:  f.Name,
		Runway:    f.Runway,
		Period:    f.Period,
		Inspected: f.Inspected,
		Category:  f.Category,
		Inspector: f.Inspector,
		Adjusted:  f.Adjusted,
		Adjuster:  f.Adjuster,
	}
}

// person returns the word for a technician, or that for none.
func person(name string) string {
	if name == "" {
		return nobodyWord
	}
	return name
}

// text returns the string of a provenance.
func (p Proof) text() string {
	return strings.Join([]string{
		p.Facility,
		p.Runway,
		strconv.Itoa(p.Period),
		strconv.Itoa(p.Inspected),
		strconv.Itoa(p.Category),
		person(p.Inspector),
		strconv.Itoa(p.Adjusted),
		person(p.Adjuster),
	}, " ")
}

// Provenance returns what the last inspection of a facility rests on.
func Provenance(l []api.Event, facility string) (Proof, api.Errno) {
	j, err := knowing(l, Register.facilityAt, facility)
	f := j.last().facility(facility)
	err = common.First(err, common.Failed(f.Inspected == None, api.ErrEmpty))
	if err != api.OK {
		return Proof{}, err
	}
	return f.proof(), api.OK
}

// CheckProvenance returns OK for the provenance of a facility.
func CheckProvenance(l []api.Event, facility string, p Proof) api.Errno {
	own, err := Provenance(l, facility)
	return common.First(err, common.Failed(p != own, api.ErrProof))
}

// Mark returns the seal of the provenance of a facility.
func Mark(l []api.Event, facility string, key api.Key) (api.Key, api.Errno) {
	p, err := Provenance(l, facility)
	if err != api.OK {
		return api.Key{}, err
	}
	return record.Seal(key, []byte(p.text()))
}
