package monitor

import (
	"slices"

	"glideslope/api"
	"glideslope/common"
)

// set is the indices of sensors.
type set = common.Set

// all returns the set of all sensors.
func (p Plant) all() set {
	s := make(set, len(p.Sensors))
	for i := range s {
		s[i] = i
	}
	return s
}

// sets returns all sets in their order.
func (p Plant) sets() []set {
	l := []set{{}}
	for i := range p.Sensors {
		l = append(l, common.Mapped(l, func(s set) set { return s.With(i) })...)
	}
	slices.SortFunc(l, set.Compare)
	return l
}

// smaller returns the sets with fewer sensors than a count in their order.
func (p Plant) smaller(count int) []set {
	return common.Where(p.sets(), func(s set) bool { return len(s) < count })
}

// firstMissed returns the index of the first hazardous failure that a set does not see, or -1 if there is none.
func (x study) firstMissed(s set) int {
	return slices.IndexFunc(x.failures, func(f Failure) bool { return x.isMissed(s, f) })
}

// least returns the least set, or ErrInfeasible if there is none.
func (x study) least() (set, api.Errno) {
	for _, s := range x.sets() {
		if x.firstMissed(s) < 0 {
			return s, api.OK
		}
	}
	return nil, api.ErrInfeasible
}

// Least returns the least set of sensors that sees all hazardous failures.
func Least(p Plant, l []Failure, limits api.Interval) ([]int, api.Errno) {
	x := study{p, l, limits}
	if e := x.check(); e != api.OK {
		return nil, e
	}
	return x.least()
}

// Proof returns, for each smaller set, a hazardous failure that it does not see.
func Proof(p Plant, l []Failure, limits api.Interval) ([]int, api.Errno) {
	x := study{p, l, limits}
	if e := x.check(); e != api.OK {
		return nil, e
	}
	least, e := x.least()
	if e != api.OK {
		return nil, e
	}
	return common.Mapped(p.smaller(len(least)), x.firstMissed), api.OK
}

// checkProof returns the error of a proof for a count, or OK.
func (x study) checkProof(count int, proof []int) api.Errno {
	if e := common.Between(count, 0, len(x.Sensors)); e != api.OK {
		return e
	}
	sets := x.smaller(count)
	if len(proof) != len(sets) {
		return api.ErrShape
	}
	e := common.CheckList(proof, len(sets), func(i int) api.Errno { return common.CheckIndex(i, len(x.failures)) })
	if e != api.OK {
		return e
	}
	for i, s := range sets {
		if !x.isMissed(s, x.failures[proof[i]]) {
			return api.ErrProof
		}
	}
	return api.OK
}

// CheckProof returns OK for a proof that no set with fewer sensors than a count sees all hazardous failures.
func CheckProof(p Plant, l []Failure, limits api.Interval, count int, proof []int) api.Errno {
	x := study{p, l, limits}
	if e := x.check(); e != api.OK {
		return e
	}
	return x.checkProof(count, proof)
}
