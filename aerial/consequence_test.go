package aerial_test

import (
	"math"
	"slices"
	"testing"

	"glideslope/aerial"
	"glideslope/api"
)

// The tests of this file are those of P3.5, and of the rules that hold for all functions: P1, memory and determinism.

// fieldResults returns the fields of an array at a direction.
func fieldResults(l []aerial.Aerial, d aerial.Direction) []any {
	carrier, side, e := aerial.Fields(l, d)
	return all(carrier, side, e)
}

func TestFieldsAreTheSumsOfParts(t *testing.T) {
	r := numbers{21}
	for range 1000 {
		l, d := r.sized(), r.direction()
		want := fieldResults(l, d)
		for i := 1; i < len(l); i++ {
			a, b, e := aerial.Fields(l[:i], d)
			x, y, f := aerial.Fields(l[i:], d)
			same(t, "sums of the fields of parts", all(a+x, b+y, max(e, f)), want)
		}
	}
}

// conjugate returns the direction on the other side.
func conjugate(d aerial.Direction) aerial.Direction { return direction(d.To.Re, -d.To.Im, d.Whole) }

func TestMirroredFields(t *testing.T) {
	r := numbers{23}
	for range 1000 {
		l, d := r.sized(), r.direction()
		m, e := aerial.Mirrored(l)
		same(t, "Mirrored", all(e), all(api.OK))
		same(t, "Fields of a mirrored array", fieldResults(m, conjugate(d)), fieldResults(l, d))
		again, e := aerial.Mirrored(m)
		same(t, "Mirrored twice", all(again, e), all(l, api.OK))
	}
}

func TestCourseStraightAhead(t *testing.T) {
	r := numbers{25}
	courses := 0
	for range 1000 {
		l := []aerial.Aerial{{Carrier: r.feed(100)}}
		for at := 1; at <= 1+r.below(3); at++ {
			carrier, side := r.feed(100), r.feed(100)
			l = append(l, aerial.Aerial{At: at, Carrier: carrier, Side: side}, aerial.Aerial{At: -at, Carrier: carrier, Side: -side})
		}
		d := r.direction()
		a, e := aerial.Needle(l, d)
		b, f := aerial.Needle(l, conjugate(d))
		if e != api.OK || f != api.OK {
			continue
		}
		// but for the rounding from the middle
		if a+b != 0 && a+b != 1 {
			t.Errorf("Needle(%v, %v): %d and %d on both sides", l, d, a, b)
		}
		n, e := aerial.Needle(l, straight)
		if e == api.OK {
			same(t, "Needle straight ahead", all(n), all(0))
		}
		if a == 0 || e != api.OK {
			continue
		}
		c, e := aerial.Course(l, []aerial.Direction{d, straight, conjugate(d)})
		same(t, "Course", all(c, e), all(crossing(1, 1), api.OK))
		courses++
	}
	same(t, "are there courses", all(courses > 300), all(true))
}

func TestTurnedFeedsChangeNoNeedle(t *testing.T) {
	r := numbers{27}
	for range 300 {
		l, s := r.sized(), r.scan()
		want, e := aerial.Needles(l, s)
		for k := range 4 {
			all4 := l
			for i := range l {
				var f api.Errno
				all4, f = aerial.Detuned(all4, i, k)
				same(t, "Detuned", all(f), all(api.OK))
			}
			n, f := aerial.Needles(all4, s)
			same(t, "Needles of turned feeds", all(k, n, f), all(k, want, e))
		}
	}
}

func TestNeedlesLieInTheirBounds(t *testing.T) {
	r := numbers{29}
	bounds := 0
	for range 1000 {
		l, d := r.array(8, 70), r.direction()
		l[0].Carrier = number(gauss(60+r.below(10), r.within(70)))
		var before api.Interval
		for _, err := range []int{20, 11, 4, 1, 0} {
			b, e := aerial.Bounds(l, d, err)
			if e != api.OK {
				same(t, "bounds with a lesser error after bounds", all(before), all(api.Interval{}))
				continue
			}
			bounds++
			if before != (api.Interval{}) && (b.Low < before.Low || b.High > before.High) {
				t.Errorf("Bounds(%v, %v, %d): %v, not in %v", l, d, err, b, before)
			}
			before = b
			for i := range 8 {
				off := slices.Clone(l)
				for j := range off {
					off[j].Carrier += r.off(err, i)
					off[j].Side += r.off(err, i)
				}
				if n, e := aerial.Needle(off, d); e != api.OK || n < b.Low || n > b.High {
					t.Errorf("Needle(%v, %v): %d, %v, not in %v", off, d, n, e, b)
				}
			}
		}
	}
	same(t, "are there bounds", all(bounds > 1000), all(true))
}

// off returns a number whose parts are at most an error: the corners first.
func (r *numbers) off(err, i int) complex128 {
	if i < 4 {
		return number(gauss(err*(i%2*2-1), err*(i/2*2-1)))
	}
	return r.feed(err)
}

func TestSynthesizedArrayHasItsFields(t *testing.T) {
	r := numbers{31}
	synthesized := 0
	for range 4000 {
		var carrier, side [4]complex128
		most := 1 + r.below(100)
		for k := range 4 {
			carrier[k], side[k] = r.feed(most), r.feed(most)
		}
		if r.below(2) == 0 {
			// the fields of some feeds
			l := []aerial.Aerial{{At: 0, Carrier: r.feed(most), Side: r.feed(most)}, {At: 1, Carrier: r.feed(most)}, {At: 2, Side: r.feed(most)}, {At: 3, Carrier: r.feed(most), Side: r.feed(most)}}
			for k, d := range quarters {
				c, s := fieldsOf(l, d)
				carrier[k], side[k] = number(c), number(s)
			}
			out, e := aerial.Synthesized(carrier, side)
			same(t, "Synthesized", all(out, e), all(l, api.OK))
		}
		l, e := aerial.Synthesized(carrier, side)
		if e != api.OK {
			continue
		}
		synthesized++
		for k, d := range quarters {
			same(t, "Fields of a synthesized array", fieldResults(l, d), all(carrier[k], side[k], api.OK))
		}
	}
	same(t, "are there arrays", all(synthesized > 1000), all(true))
}

func TestNoPhasingHasMorePower(t *testing.T) {
	r := numbers{33}
	powerAt := func(l []aerial.Aerial, phasing []int, d aerial.Direction) int {
		for i, k := range phasing {
			l, _ = aerial.Detuned(l, i, k)
		}
		carrier, _, _ := aerial.Fields(l, d)
		return squareOf(gaussOf(carrier))
	}
	for range 100 {
		l, d := r.array(6, 100), r.direction()
		phasing, most, e := aerial.Phasing(l, d)
		same(t, "power of a phasing", all(most, e), all(powerAt(l, phasing, d), api.OK))
		for range 20 {
			other := make([]int, len(l))
			for i := range other {
				other[i] = r.below(4)
			}
			p := powerAt(l, other, d)
			if p > most || p == most && slices.Compare(other, phasing) < 0 {
				t.Errorf("Phasing(%v, %v): %v, %d, but %v has %d", l, d, phasing, most, other, p)
			}
		}
	}
}

func TestNetworkKeepsPower(t *testing.T) {
	r := numbers{35}
	total := func(ports []complex128) int {
		sum := 0
		for _, x := range ports {
			p, e := aerial.Power(x)
			same(t, "Power", all(e), all(api.OK))
			sum += p
		}
		return sum
	}
	for range 500 {
		ports := append(r.ports(), r.feed(100))[:2]
		for i := range ports {
			ports[i] = complex(math.Trunc(real(ports[i])/2), math.Trunc(imag(ports[i])/2))
		}
		out, scale, e := aerial.Led(ports, r.network(2))
		same(t, "power of all ports", all(total(out), e), all(total(ports)*scale*scale, api.OK))
	}
}

func TestParsedAsPrinted(t *testing.T) {
	r := numbers{37}
	for range 1000 {
		l := r.sized()
		s, e := aerial.Print(l)
		back, at, f := aerial.Parse(s)
		same(t, "Print and Parse", all(e, back, at, f), all(api.OK, l, 0, api.OK))
		damaged := []byte(s)
		damaged[r.below(len(s))] = byte("0 -\nxa"[r.below(6)])
		if l, _, e := aerial.Parse(string(damaged)); e == api.OK {
			again, _ := aerial.Print(l)
			same(t, "Parse and Print", all(again), all(string(damaged)))
		}
	}
}

// P1: no function panics, whatever its arguments are.
func TestNoPanics(t *testing.T) {
	ints := []int{math.MinInt, -1000000000, -1, 0, 1, 3, 1000000000, math.MaxInt}
	feeds := []complex128{complex(nan, nan), complex(-inf, 0), complex(0, math.MaxFloat64), 0.5, 0, 1i}
	for _, a := range ints {
		for _, b := range ints {
			for _, x := range feeds {
				d := direction(a, b, a)
				s := []aerial.Direction{d, straight}
				for _, l := range [][]aerial.Aerial{{{At: a, Carrier: x, Side: 1}}, {{At: 1, Carrier: 1, Side: x}, {At: b}}, example(), nil} {
					noPanic(t, "fields", func() { aerial.CheckArray(l); fieldResults(l, d); fieldResults(l, straight) })
					noPanic(t, "courses", func() { courseResults(l, s, a, span(a, b)); courseResults(l, scan(), a, span(a, b)) })
					noPanic(t, "needles", func() { needleResults(l, d); aerial.Needles(l, s); aerial.Bounds(l, straight, a) })
					noPanic(t, "Coupled", func() { aerial.Coupled(l, [][]complex128{{x}}); aerial.Coupled(l, [][]complex128{nil, {x, x}, nil}) })
					noPanic(t, "feeds", func() { aerial.Failed(l, a); aerial.Detuned(l, a, b); aerial.Detuned(l, 0, b); aerial.Mirrored(l) })
					noPanic(t, "Phasing", func() { aerial.Phasing(l[:min(1, len(l))], d) })
					noPanic(t, "Print", func() { aerial.Print(l) })
				}
				noPanic(t, "Phase", func() { aerial.CheckDirection(d); aerial.Phase(d, a); aerial.Phase(straight, b) })
				noPanic(t, "Synthesized", func() { aerial.Synthesized([4]complex128{x}, [4]complex128{1: x}) })
				noPanic(t, "Power", func() { aerial.Power(x) })
				noPanic(t, "Led", func() { aerial.Led([]complex128{1, x}, []aerial.Coupler{coupler(a, b, b, a, a)}) })
				noPanic(t, "Led", func() { aerial.Led([]complex128{1, 2}, []aerial.Coupler{coupler(0, 1, b, a, a)}) })
			}
		}
	}
	r := numbers{39}
	for range 2000 {
		s := make([]byte, r.below(60))
		for i := range s {
			s[i] = []byte{' ', ' ', '\n', '-', '0', '1', byte(r.below(256))}[r.below(7)]
		}
		noPanic(t, "Parse", func() { aerial.Parse("aerial 1 0 " + string(s)) })
	}
}

// Arguments stay as they are, and a result that is changed changes neither an argument nor a later result.
func TestMemory(t *testing.T) {
	l := append(example(), aerial.Aerial{At: 2, Carrier: 1})[:3] // what is behind a list is not written to
	s := append(scan(), back)[:3]
	ports, network := []complex128{1, 2, 3}[:2], []aerial.Coupler{coupler(0, 1, 3, 4, 5)}
	m := with(matrix(3), 0, 1, 100)
	fields := [4]complex128{4, 0, 0, 8}
	before := shown(l[:4], s[:4], ports[:3], network, m, fields)
	once := func() string {
		a, _ := aerial.Needles(l, s)
		b, _ := aerial.Crossings(l, s)
		c, _ := aerial.Coupled(l, m)
		d, _ := aerial.Failed(l, 1)
		e, _ := aerial.Detuned(l, 1, 1)
		f, _ := aerial.Detuned(l, 1, 0)
		g, _ := aerial.Mirrored(l)
		h, _ := aerial.Synthesized(fields, fields)
		i, _, _ := aerial.Phasing(l, right)
		j, _, _ := aerial.Led(ports, network)
		k, _, _ := aerial.Led(ports, nil)
		text, _ := aerial.Print(l)
		n, _, _ := aerial.Parse(text)
		out := shown(a, b, c, d, e, f, g, h, i, j, k, text, n)
		clear(a)
		clear(b)
		for _, x := range [][]aerial.Aerial{c, d, e, f, g, h, n} {
			clear(x)
		}
		clear(i)
		clear(j)
		clear(k)
		return out
	}
	want := once()
	for range 5 {
		same(t, "results again", all(once()), all(want))
	}
	same(t, "arguments", all(shown(l[:4], s[:4], ports[:3], network, m, fields)), all(before))
}
