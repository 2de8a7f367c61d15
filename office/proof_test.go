package office_test

import (
	"testing"

	"glideslope/api"
	"glideslope/office"
	"glideslope/record"
)

// The tests of this file are those of P10.2 about provenances.

// seal returns the seal of a string by a key.
func seal(key api.Key, s string) api.Key {
	out, e := record.Seal(key, []byte(s))
	if e != api.OK {
		panic(e)
	}
	return out
}

// uninspected returns journals in which f has no inspection, or is none, as bad ones.
func uninspected() []bad[[]api.Event] {
	return []bad[[]api.Event]{{eventsJ[:5], api.ErrEmpty}, {eventsJ[:2], api.ErrEmpty}, {eventsJ[:1], api.ErrUnknown}, {further(eventsJ[:5], "on f 12"), api.ErrEmpty}, {nil, api.ErrUnknown}}
}

func TestProvenance(t *testing.T) {
	same(t, "Provenance", proved(eventsJ, "f"), all(proofJ, api.OK))
	l := further(eventsJ, "facility f2 r 40 7", "inspect f2 ann 41 0", "off f 42", "adjust f bob 43", "grant ann 44 60", "inspect f ann 45 3", "adjust f bob 46", "undo", "stock f2 46 1")
	same(t, "Provenance of an unadjusted one", proved(l, "f2"), all(office.Proof{Facility: "f2", Runway: "r", Period: 7, Inspected: 41, Inspector: "ann", Adjusted: -1}, api.OK))
	same(t, "Provenance of the last ones", proved(l, "f"), all(office.Proof{Facility: "f", Runway: "r", Period: 100, Inspected: 45, Category: 3, Inspector: "ann", Adjusted: 43, Adjuster: "bob"}, api.OK))
	same(t, "Provenance of one adjusted since", proved(further(l, "adjust f ann 60"), "f"), all(office.Proof{Facility: "f", Runway: "r", Period: 100, Inspected: 45, Category: 3, Inspector: "ann", Adjusted: 60, Adjuster: "ann"}, api.OK))
	bads := journals()
	for _, x := range uninspected() {
		bads.bad = append(bads.bad, bad[any]{x.x, x.e})
	}
	checkErrors(t, "Provenance", func(a []any) []any { return proved(a[0].([]api.Event), a[1].(string)) }, all(office.Proof{}), journals(), argumentOf("f", badThings("r")))
	for _, x := range bads.bad {
		l := x.x.([]api.Event)
		same(t, "Provenance, Mark, CheckProvenance", all(proved(l, "f"), marked(l, "f", api.Key{9}), office.CheckProvenance(l, "f", office.Proof{})), all(all(office.Proof{}, x.e), all(api.Key{}, x.e), x.e))
	}
}

// wrongProofs returns provenances that differ from one in one thing.
func wrongProofs(p office.Proof) []office.Proof {
	out := []office.Proof{{}}
	add := func(change func(p *office.Proof)) { out = append(out, with(p, change)) }
	for _, s := range words("", "x", "-", "F", "f ") {
		add(func(p *office.Proof) { p.Facility = s })
		add(func(p *office.Proof) { p.Runway = s })
		add(func(p *office.Proof) { p.Inspector = s })
		add(func(p *office.Proof) { p.Adjuster = s })
	}
	for _, n := range []int{-1, 1, 1 << 40} {
		add(func(p *office.Proof) { p.Period += n })
		add(func(p *office.Proof) { p.Inspected += n })
		add(func(p *office.Proof) { p.Category += n })
		add(func(p *office.Proof) { p.Adjusted += n })
	}
	add(func(p *office.Proof) { p.Inspector, p.Adjuster = p.Adjuster, p.Inspector })
	return out
}

func TestCheckProvenance(t *testing.T) {
	same(t, "CheckProvenance", all(office.CheckProvenance(eventsJ, "f", proofJ)), all(api.OK))
	var wrong []bad[office.Proof]
	for _, p := range wrongProofs(proofJ) {
		wrong = append(wrong, bad[office.Proof]{p, api.ErrProof})
	}
	call := func(a []any) []any {
		return all(office.CheckProvenance(a[0].([]api.Event), a[1].(string), a[2].(office.Proof)))
	}
	checkErrors(t, "CheckProvenance", call, nil, journals(), argumentOf("f", badThings("r")), argumentOf(proofJ, wrong))
}

func TestMark(t *testing.T) {
	key := api.Key{1, 2, 3, 4, 5, 6, 7, 8}
	l := further(eventsJ, "facility g r 40 7", "inspect g ann 41 0")
	for _, k := range []api.Key{{}, key, {255, 0, 255}} {
		same(t, "Mark", all(marked(eventsJ, "f", k), marked(l, "f", k), marked(l, "g", k)), all(all(seal(k, "f r 100 20 2 bob 10 ann"), api.OK), all(seal(k, "f r 100 20 2 bob 10 ann"), api.OK), all(seal(k, "g r 7 41 0 ann -1 -"), api.OK)))
	}
	call := func(a []any) []any { return marked(a[0].([]api.Event), a[1].(string), a[2].(api.Key)) }
	checkErrors(t, "Mark", call, all(api.Key{}), journals(), argumentOf("f", badThings("r")), argumentOf[api.Key](key, nil))
}

func TestRandomProvenances(t *testing.T) {
	r := numbers{7}
	proofs := 0
	for i := range 300 {
		l := r.journal(60)
		for _, f := range registerOf(countingOf(l)).Facilities {
			p, is := proofOf(l, f.Name)
			key := api.Key{byte(r.below(256)), byte(i)}
			if !is {
				same(t, "Provenance of none", all(i, proved(l, f.Name), office.CheckProvenance(l, f.Name, p), marked(l, f.Name, key)), all(i, all(office.Proof{}, api.ErrEmpty), api.ErrEmpty, all(api.Key{}, api.ErrEmpty)))
				continue
			}
			proofs++
			same(t, "Provenance", all(i, proved(l, f.Name), office.CheckProvenance(l, f.Name, p), marked(l, f.Name, key)), all(i, all(p, api.OK), api.OK, all(seal(key, textOf(p)), api.OK)))
			for _, wrong := range wrongProofs(p)[1:] {
				if wrong != p {
					same(t, "CheckProvenance", all(i, wrong, office.CheckProvenance(l, f.Name, wrong)), all(i, wrong, api.ErrProof))
				}
			}
		}
	}
	same(t, "are there provenances", all(proofs > 300), all(true))
}
