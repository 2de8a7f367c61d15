package release

import (
	"iter"

	"glideslope/api"
	"glideslope/common"
)

// conditions returns the reasons for which a moment is not fit for the last step.
func conditions() []common.Reason[Moment] {
	return []common.Reason[Moment]{
		{Word: "clear", Applies: func(m Moment) bool { return !m.Clear }},
		{Word: "staff", Applies: func(m Moment) bool { return !m.Staffed }},
		{Word: "light", Applies: func(m Moment) bool { return !m.Lit }},
	}
}

// lacking returns the words for the conditions that do not hold at a moment.
func (m Moment) lacking() []string { return common.Applying(conditions(), m) }

// isFit reports whether all conditions hold at a moment.
func (m Moment) isFit() bool { return len(m.lacking()) == 0 }

// after returns the step after a moment, by the step before it and the number of successive moments with a view to leave.
func (r Rule) after(step, successive int, m Moment) int {
	isOver := successive >= r.Moments
	switch {
	case step == Normal && m.View < r.Prepare:
		return Prepared
	case step == Prepared && m.View < r.Enter && m.isFit():
		return InForce
	case step == Prepared && isOver:
		return Normal
	case step == InForce && (isOver || !m.isFit()):
		return Prepared
	}
	return step
}

// stage is a moment with the step after it.
type stage struct {
	Moment
	step int
}

// stages visits all moments with the steps after them, and their indices.
func (r Rule) stages(l []Moment) iter.Seq2[int, stage] {
	return func(yield func(int, stage) bool) {
		step, successive := Normal, 0
		for i, m := range l {
			successive++
			if m.View < r.Leave {
				successive = 0
			}
			step = r.after(step, successive, m)
			if !yield(i, stage{m, step}) {
				return
			}
		}
	}
}

// blocking returns the words for the conditions that keep the last step from being in force.
func (s stage) blocking(r Rule) []string {
	if s.step != Prepared || s.View >= r.Enter {
		return nil
	}
	return s.lacking()
}

// Steps returns the step after each moment.
func Steps(r Rule, l []Moment) ([]int, api.Errno) {
	if e := common.First(CheckRule(r), checkMoments(l)); e != api.OK {
		return nil, e
	}
	var steps []int
	for _, s := range r.stages(l) {
		steps = append(steps, s.step)
	}
	return steps, api.OK
}

// Forced returns the spans of moments after which the last step is in force.
func Forced(r Rule, l []Moment) ([]api.Span, api.Errno) {
	if e := common.First(CheckRule(r), checkMoments(l)); e != api.OK {
		return nil, e
	}
	var spans []api.Span
	for i, s := range r.stages(l) {
		if s.step == InForce {
			spans = common.Widened(spans, i)
		}
	}
	return spans, api.OK
}

// Blocked returns, for each moment, the words for the conditions that keep the last step from being in force.
func Blocked(r Rule, l []Moment) ([][]string, api.Errno) {
	if e := common.First(CheckRule(r), checkMoments(l)); e != api.OK {
		return nil, e
	}
	var words [][]string
	for _, s := range r.stages(l) {
		words = append(words, s.blocking(r))
	}
	return words, api.OK
}
