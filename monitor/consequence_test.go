package monitor_test

import (
	"math"
	"slices"
	"testing"

	"glideslope/api"
	"glideslope/monitor"
)

// The tests of this file are those of P6.5, and of the rules that hold for all functions: P1, memory and determinism.

// uncommanded returns seconds without their commands.
func uncommanded(l []monitor.Second) []monitor.Second {
	out := slices.Clone(l)
	for i := range out {
		out[i].Command = monitor.None
	}
	return out
}

// staying returns so many seconds in which a failure stays.
func staying(f monitor.Failure, n int) []monitor.Second {
	return slices.Repeat([]monitor.Second{read(f.Needles...)}, n)
}

// modesOf returns the mode after each second.
func modesOf(t *testing.T, p monitor.Plant, l []monitor.Second) []int {
	t.Helper()
	states, e := monitor.States(p, l)
	same(t, "States", all(len(states), e), all(len(l), api.OK))
	var modes []int
	for _, s := range states {
		modes = append(modes, s.Mode)
	}
	return modes
}

func TestSeenIsOffTheAir(t *testing.T) {
	r := numbers{11}
	count := 0
	for range 4000 {
		far := r.far()
		p := r.plant(far, 8)
		f := monitor.Failure{Name: "f", True: 1, Needles: r.row(far, len(p.Sensors))}
		is, after, e := monitor.Seen(p, f)
		same(t, "Seen", all(e, is), all(api.OK, after > 0))
		if !is {
			same(t, "never voted on", all(p, f, slices.Max(modesOf(t, p, staying(f, 70)))), all(p, f, monitor.Main))
			continue
		}
		// from the beginning on, it leaves Main in exactly these seconds
		count++
		modes := modesOf(t, p, staying(f, after))
		same(t, "seconds in Main", all(p, f, slices.IndexFunc(modes, func(m int) bool { return m != monitor.Main })), all(p, f, after-1))
		p.Silence = 1 + p.Silence%60
		n, e := monitor.Exposed(p, staying(f, after), slices.Repeat([]int{1}, after), interval(0, 0))
		same(t, "Exposed", all(p, f, n, e), all(p, f, after-1, api.OK))
		// after other seconds, in no more
		before := uncommanded(r.seconds(p, far, 20))
		modes = modesOf(t, p, append(before, staying(f, after)...))
		if len(before) == 0 || modes[len(before)-1] == monitor.Main {
			same(t, "Main in the end", all(p, f, modes[len(modes)-1] == monitor.Main), all(p, f, false))
		}
	}
	same(t, "are there both", all(count > 1000, count < 3500), all(true, true))
}

func TestOneAloneVotesNot(t *testing.T) {
	r := numbers{13}
	for range 3000 {
		far := r.far()
		p := r.plant(far, 7)
		p.Sensors = append(p.Sensors, monitor.Sensor{Name: "last", Kind: "near", Delay: 1})
		p.Need = 2 + r.small(len(p.Sensors)-2)
		l := uncommanded(r.seconds(p, far, 80))
		odd := r.below(len(p.Sensors))
		for _, x := range l {
			for i, s := range p.Sensors {
				if i != odd {
					x.Readings[i] = monitor.Reading{Needle: s.Limits.Low + r.below(s.Limits.High-s.Limits.Low+1)}
				}
			}
		}
		same(t, "modes by one alone", all(p, l, modesOf(t, p, l)), all(p, l, make([]int, len(l)))) // all are Main
	}
}

func TestFarOnesVoteNot(t *testing.T) {
	r := numbers{15}
	for range 2000 {
		far := r.far()
		p := r.plant(far, 8)
		for i := range p.Sensors {
			p.Sensors[i].Kind = "far"
		}
		l := uncommanded(r.seconds(p, far, 80))
		same(t, "modes by far ones", all(p, l, modesOf(t, p, l)), all(p, l, make([]int, len(l)))) // all are Main
		f := monitor.Failure{Name: "f", Needles: r.row(far, len(p.Sensors))}
		same(t, "Seen by far ones", all(p, f, seen(p, f)), all(p, f, all(false, 0, api.OK)))
	}
}

func TestDownStaysDown(t *testing.T) {
	r := numbers{17}
	count := 0
	for range 3000 {
		far := r.far()
		p := r.plant(far, 4)
		l := r.seconds(p, far, 120)
		modes := modesOf(t, p, l)
		for i := 1; i < len(l); i++ {
			if modes[i-1] != monitor.Down || l[i].Command == monitor.Reset || l[i].Command == monitor.Maintain {
				continue
			}
			count++
			if modes[i] != monitor.Down {
				t.Errorf("States(%v, %v): the mode %v after Down", p, l[:i+1], modes[i])
			}
		}
	}
	same(t, "are there any", all(count > 5000), all(true))
}

func TestSeenByMore(t *testing.T) {
	r := numbers{19}
	count := 0
	for range 6000 {
		far := r.far()
		p := r.plant(far, 8)
		f := monitor.Failure{Name: "f", Needles: r.row(far, len(p.Sensors))}
		is, after, _ := monitor.Seen(p, f)
		// one sensor more sees it, and whoever saw it still does
		i := r.below(len(p.Sensors))
		p.Sensors[i].Limits = interval(min(10000, f.Needles[i]+1), 10000)
		more, before, e := monitor.Seen(p, f)
		if f.Needles[i] == 10000 || !is {
			continue
		}
		count++
		same(t, "Seen by more", all(p, f, more, before <= after, e), all(p, f, true, true, api.OK))
	}
	same(t, "are there any", all(count > 1500), all(true))
}

func TestGreaterNeedSeesNoMore(t *testing.T) {
	r := numbers{21}
	for range 5000 {
		far := r.far()
		p := r.plant(far, 8)
		f := monitor.Failure{Name: "f", Needles: r.row(far, len(p.Sensors))}
		was, before := true, 0
		for need := 1; need <= len(p.Sensors); need++ {
			p.Need = need
			is, after, e := monitor.Seen(p, f)
			same(t, "Seen by a greater Need", all(p, f, is && !was, is && after < before, e), all(p, f, false, false, api.OK))
			was, before = is, after
		}
	}
}

// only returns a plant with the sensors of a set alone, and failures as these read them.
func only(p monitor.Plant, l []monitor.Failure, set []int) (monitor.Plant, []monitor.Failure) {
	q := monitor.Plant{Need: p.Need, Silence: p.Silence}
	out := slices.Clone(l)
	for k := range out {
		out[k].Needles = nil
	}
	for _, i := range set {
		q.Sensors = append(q.Sensors, p.Sensors[i])
		for k, f := range l {
			out[k].Needles = append(out[k].Needles, f.Needles[i])
		}
	}
	return q, out
}

func TestLeastSeesAll(t *testing.T) {
	r := numbers{23}
	sizes := map[int]int{}
	for range 1500 {
		far := r.far()
		p := r.plant(far, 6)
		l, x := r.failures(p, far, 4), r.limits(far)
		set, e := monitor.Least(p, l, x)
		names, _ := monitor.Hidden(p, l, x)
		same(t, "Least exists if nothing is hidden", all(p, l, x, e == api.OK), all(p, l, x, len(names) == 0))
		if e != api.OK {
			continue
		}
		sizes[len(set)]++
		proof, e := monitor.Proof(p, l, x)
		same(t, "CheckProof", all(p, l, x, e, monitor.CheckProof(p, l, x, len(set), proof)), all(p, l, x, api.OK, api.OK))
		for _, s := range setsOf(len(p.Sensors)) {
			indices := indicesOf(s)
			if len(indices) < p.Need {
				continue
			}
			q, m := only(p, l, indices)
			names, e := monitor.Hidden(q, m, x)
			isAll := len(names) == 0
			if slices.Equal(indices, set) {
				same(t, "the least set sees all", all(p, l, x, isAll, e), all(p, l, x, true, api.OK))
			} else if len(indices) < len(set) {
				same(t, "no smaller set does", all(p, l, x, s, isAll, e), all(p, l, x, s, false, api.OK))
			}
		}
	}
	same(t, "are there all", all(sizes[0] > 100, sizes[1] > 100, sizes[2] > 50, sizes[3] > 5), all(true, true, true, true))
}

// If a proof for a count is right, no set with fewer sensors is the least one.
func TestProofsAreRight(t *testing.T) {
	r := numbers{25}
	count := 0
	for range 4000 {
		p := r.plant(6, 4)
		l, x := r.failures(p, 6, 2), r.limits(6)
		if len(l) == 0 {
			continue
		}
		n := r.below(min(3, len(p.Sensors)+1))
		proof := make([]int, setsBelow(len(p.Sensors), n))
		for k := range proof {
			proof[k] = r.below(len(l))
		}
		if monitor.CheckProof(p, l, x, n, proof) != api.OK {
			continue
		}
		count++
		if set, e := monitor.Least(p, l, x); e == api.OK && len(set) < n {
			t.Errorf("Least(%v, %v, %v): %v, but %v proves that there is none below %v", p, l, x, set, proof, n)
		}
	}
	same(t, "are there any", all(count > 500), all(true))
}

func TestDueStaysDue(t *testing.T) {
	r := numbers{27}
	for range 3000 {
		l := r.checks(16)
		day := r.below(200001)
		later := day + r.below(200001-day)
		names, _ := monitor.Due(l, day)
		after, e := monitor.Due(l, later)
		same(t, "Due", all(e), all(api.OK))
		for _, s := range names {
			same(t, "Due later", all(l, day, later, slices.Contains(after, s)), all(l, day, later, true))
		}
	}
}

// P1: no function panics, whatever its arguments are.
func TestNoPanics(t *testing.T) {
	ints := []int{math.MinInt, -1000000000, -1, 0, 1, 3, 10000, math.MaxInt}
	for _, a := range ints {
		for _, b := range ints {
			x := interval(a, b)
			odd := monitor.Sensor{Name: "o", Kind: "near", Limits: x, Delay: a}
			for _, p := range []monitor.Plant{{}, plantP, {Sensors: []monitor.Sensor{odd, odd}, Need: a, Silence: b}, {Sensors: []monitor.Sensor{odd}, Need: 1}, {Sensors: make([]monitor.Sensor, 1000), Need: b}, with(plantP, func(p *monitor.Plant) { p.Need = a }), with(plantP, func(p *monitor.Plant) { p.Silence = b })} {
				for _, l := range [][]monitor.Second{nil, seconds, {told(a, b)}, {told(b, 1, 2, 3)}, {told(0, a, b, 0)}, {{Readings: []monitor.Reading{{a, true}, {b, false}, {0, true}}}}, make([]monitor.Second, 1000)} {
					noPanic(t, "seconds", func() {
						monitor.CheckPlant(p)
						monitor.Print(p)
						monitor.CheckSeconds(p, l)
						monitor.States(p, l)
						monitor.Alarms(p, l)
						monitor.Silent(p, l)
						monitor.Exposed(p, l, []int{a, b}, x)
						monitor.Exposed(p, l, needles, x)
						monitor.Exposed(plantP, l, make([]int, len(l)), limits)
					})
				}
				f := monitor.Failure{Name: "f", True: a, Needles: []int{a, b, a}, Rate: b}
				for _, l := range [][]monitor.Failure{nil, failures, {f}, {feed, f}, {{Name: "g"}}, {{Name: "h", Needles: make([]int, 1000)}}, make([]monitor.Failure, 1000)} {
					noPanic(t, "failures", func() {
						monitor.CheckFailures(p, l)
						monitor.Seen(p, f)
						monitor.Hidden(p, l, x)
						monitor.Pairs(p, l, x)
						monitor.Needless(p, l, x)
						monitor.Worst(p, l, x)
						monitor.Risk(p, l, x, b)
						monitor.Risk(plantP, l, limits, a)
						monitor.Least(p, l, x)
						monitor.Proof(p, l, x)
						for _, proof := range [][]int{nil, {a}, {a, b, a, b}, {0, 0, 0, 0}, make([]int, 1000)} {
							monitor.CheckProof(p, l, x, a, proof)
							monitor.CheckProof(p, l, limits, b, proof)
							monitor.CheckProof(plantP, l, limits, 2, proof)
						}
					})
				}
			}
			noPanic(t, "checks", func() {
				for _, l := range [][]monitor.Check{nil, checks, {{Name: "c", Every: a, Last: b}}, make([]monitor.Check, 1000)} {
					monitor.CheckChecks(l)
					monitor.Due(l, a)
					monitor.Next(l)
				}
			})
		}
	}
	r := numbers{29}
	for range 5000 {
		s := make([]byte, r.below(60))
		for i := range s {
			s[i] = []byte{' ', ' ', '\n', '-', '0', '1', byte(r.below(256))}[r.below(7)]
		}
		noPanic(t, "Parse", func() {
			monitor.Parse(string(s))
			monitor.Parse("plant 1 1\nsensor a near 1" + string(s))
		})
	}
}

// Arguments stay as they are, and a result that is changed changes neither an argument nor a later result.
func TestMemory(t *testing.T) {
	// what is behind a list is not written to
	p := monitor.Plant{Sensors: manySensors(8)[:3], Need: 1, Silence: 2}
	l, f, c, row := manySeconds(256)[:30], manyFailures(8)[:5], manyChecks(16)[:6], make([]int, 40)[:30]
	x := interval(-2, 12)
	kept := func() string {
		return shown(p.Sensors[:8], p, l[:256], f[:8], c[:16], row[:40])
	}
	before := kept()
	once := func() string {
		states, _ := monitor.States(p, l)
		alarms, _ := monitor.Alarms(p, l)
		spans, _ := monitor.Silent(p, l)
		names, _ := monitor.Hidden(plantP, f, interval(0, 0))
		pairs, _ := monitor.Pairs(plantP, f, interval(0, 0))
		idle, _ := monitor.Needless(p, f, x)
		set, _ := monitor.Least(p, f, x)
		proof, _ := monitor.Proof(p, f, x)
		dues, _ := monitor.Due(c, 12)
		same(t, "are there results", all(len(states), len(alarms), len(spans) > 0, len(names) > 0, len(pairs) > 0, len(idle) > 0, len(set) > 0, len(proof) > 0, len(dues) > 0), all(30, 30, true, true, true, true, true, true, true))
		text, _ := monitor.Print(p)
		back, _, _ := monitor.Parse(text)
		out := shown(states, alarms, spans, names, pairs, idle, set, proof, dues, text, back, exposed(p, l, row, x), seen(p, f[4]), worst(p, f, x), risked(p, f, x, 10), next(c), monitor.CheckProof(p, f, x, len(set), proof))
		for i := range alarms {
			rest := shown(alarms[i+1:])
			clear(alarms[i][:cap(alarms[i])])
			same(t, "later alarms", all(shown(alarms[i+1:])), all(rest))
		}
		clear(states)
		clear(spans)
		clear(names)
		clear(pairs)
		clear(idle)
		clear(set)
		clear(proof)
		clear(dues)
		clear(back.Sensors)
		return out
	}
	want := once()
	for range 5 {
		same(t, "results again", all(once()), all(want))
	}
	same(t, "arguments", all(kept()), all(before))
}

// The first error decides in the order of the arguments, not of the maps that find names: each call has the same result.
func TestDeterminism(t *testing.T) {
	l := append(manyChecks(15), monitor.Check{Name: "n7"})
	p := monitor.Plant{Sensors: append(manySensors(7), monitor.Sensor{Name: "n3"}), Need: 1}
	for range 50 {
		same(t, "CheckChecks, CheckPlant", all(monitor.CheckChecks(l), monitor.CheckPlant(p)), all(api.ErrTwice, api.ErrTwice))
	}
	var first string
	for i := range 20 {
		s := shown(stated(plantP, manySeconds(256)), alarmed(plantP, manySeconds(256)), paired(plantP, manyFailures(8), limits), proved(plantP, failures, interval(-16, 16)))
		if i == 0 {
			first = s
		}
		same(t, "results", all(s), all(first))
	}
}
