package office

import (
	"slices"

	"glideslope/api"
)

// put returns a copy of a list with an element at an index, or as a new one at the end if the index is below 0.
func put[T any](l []T, at int, x T) []T {
	if at < 0 {
		at = len(l)
	}
	out := make([]T, max(len(l), at+1))
	copy(out, l)
	out[at] = x
	return out
}

// elementAt returns the element at an index, or the zero value if the index is below 0.
func elementAt[T any](l []T, at int) T {
	var x T
	if at >= 0 {
		x = l[at]
	}
	return x
}

// The following functions return the index of what has a name, or a number below 0.

func (r Register) runwayAt(name string) int { return slices.Index(r.Runways, name) }

func (r Register) facilityAt(name string) int {
	return slices.IndexFunc(r.Facilities, func(f Facility) bool { return f.Name == name })
}

func (r Register) technicianAt(name string) int {
	return slices.IndexFunc(r.Technicians, func(t Technician) bool { return t.Name == name })
}

func (r Register) partAt(name string) int {
	return slices.IndexFunc(r.Parts, func(p Part) bool { return p.Name == name })
}

// The following functions return what has a name, or the zero value.

func (r Register) facility(name string) Facility {
	return elementAt(r.Facilities, r.facilityAt(name))
}

func (r Register) technician(name string) Technician {
	return elementAt(r.Technicians, r.technicianAt(name))
}

func (r Register) part(name string) Part { return elementAt(r.Parts, r.partAt(name)) }

// isValid reports whether the rights of a technician are valid at a tick.
func (t Technician) isValid(tick int) bool { return t.Until >= tick }

// The following functions return the register after an event that is accepted.

func addRunway(r Register, e api.Event) Register {
	r.Runways = put(r.Runways, -1, e.Names[0])
	return r
}

func addFacility(r Register, e api.Event) Register {
	f := Facility{Name: e.Names[0], Runway: e.Names[1], Period: e.Values[1], Inspected: None, Adjusted: None}
	r.Facilities = put(r.Facilities, -1, f)
	return r
}

func grantRights(r Register, e api.Event) Register {
	name := e.Names[0]
	r.Technicians = put(r.Technicians, r.technicianAt(name), Technician{name, e.Values[1]})
	return r
}

func addParts(r Register, e api.Event) Register { return r.supplied(e.Names[0], e.Values[1]) }

func takeParts(r Register, e api.Event) Register { return r.supplied(e.Names[0], -e.Values[1]) }

// supplied returns the register with so many spares of a part more.
func (r Register) supplied(name string, count int) Register {
	r.Parts = put(r.Parts, r.partAt(name), Part{name, r.part(name).Count + count})
	return r
}

// changes returns the effect of an event on the facility that it names first.
func changes(change func(f *Facility, e api.Event)) func(Register, api.Event) Register {
	return func(r Register, e api.Event) Register {
		at := r.facilityAt(e.Names[0])
		f := r.Facilities[at]
		change(&f, e)
		r.Facilities = put(r.Facilities, at, f)
		return r
	}
}

// The following functions change a facility by an event that is accepted.

func adjust(f *Facility, e api.Event) {
	f.Adjusted, f.Adjuster, f.Touched = e.Values[0], e.Names[1], true
}

func inspect(f *Facility, e api.Event) {
	f.Inspected, f.Category, f.Inspector, f.Touched = e.Values[0], e.Values[1], e.Names[1], false
}

func turnOn(f *Facility, _ api.Event) { f.Air = true }

func turnOff(f *Facility, _ api.Event) { f.Air = false }

func alarm(f *Facility, _ api.Event) { f.Alarm, f.Air = true, false }

func reset(f *Facility, _ api.Event) { f.Alarm = false }
