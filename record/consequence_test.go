package record_test

import (
	"math"
	"slices"
	"strings"
	"testing"

	"glideslope/api"
	"glideslope/record"
)

// The tests of this file are those of P1.5, and of the rules that hold for all functions: P1, memory and determinism.

func TestSamplesComeBack(t *testing.T) {
	r := numbers{7}
	for range 500 {
		l := [4]float32(r.samples(4))
		p, e := record.Four(l)
		same(t, "Four", all(e), all(api.OK))
		back, e := record.Unfour(p)
		same(t, "Unfour", all(back, e), all(l, api.OK))
	}
	for _, n := range []int{0, 1, 7, 8, 9, 255, 256, 4095, 4096} {
		l := r.samples(n)
		s, e := record.Pack(l)
		same(t, "Pack", all(len(s), e), all(14+2*n, api.OK))
		back, e := record.Unpack(s)
		same(t, "Unpack", all(back, e), all(l, api.OK))
	}
}

// packets returns the packets of samples of a station.
func packets(l []float32, station int) []record.Packet {
	var out []record.Packet
	for c := 0; 8*c < len(l); c++ {
		p := record.Packet{Station: station, Counter: c, Length: min(8, len(l)-8*c)}
		copy(p.Samples[:], l[8*c:8*c+p.Length])
		out = append(out, p)
	}
	return out
}

// Samples come back from packets with other bytes and other stations' packets between them, and what is lost is told.
func TestPacketsComeBack(t *testing.T) {
	r := numbers{11}
	for range 60 {
		n := r.below(300)
		l := r.samples(n)
		var s []byte
		var lost []api.Span
		wanted := slices.Clone(l)
		for i, p := range packets(l, 5) {
			s = append(s, slices.Repeat([]byte{byte(r.below(256))}, r.below(40))...)
			b := encoded(t, p)
			if r.below(6) == 0 {
				b[r.below(29)] ^= byte(1 + r.below(255))
				from, to := 8*i, 8*i+p.Length
				clear(wanted[from:to])
				if k := len(lost); k > 0 && lost[k-1].To == from {
					lost[k-1].To = to
				} else {
					lost = append(lost, span(from, to))
				}
			}
			s = append(s, b...)
			s = append(s, encoded(t, record.Packet{Station: 6, Counter: i, Length: 8})...)
		}
		got, _, e := record.Received(key, s)
		same(t, "Received", all(e), all(api.OK))
		back, missing, e := record.Assembled(got, 5, n)
		same(t, "Assembled", all(back, missing, e), all(wanted, lost, api.OK))
	}
}

func TestCutAndJoined(t *testing.T) {
	r := tape()
	for at := range 5 {
		a, e := record.Cut(r, span(0, at))
		same(t, "Cut before", all(at, e), all(at, api.OK))
		b, e := record.Cut(r, span(at, 4))
		same(t, "Cut after", all(at, e), all(at, api.OK))
		both, e := record.Joined(a, b)
		same(t, "Joined", all(at, both, e), all(at, r, api.OK))
	}
}

func TestShiftedIsAligned(t *testing.T) {
	r := numbers{13}
	l := r.samples(600)
	for _, s := range []int{-256, -100, -1, 0, 1, 99, 256} {
		a, b := l[:400], l[max(0, -s):400]
		if s > 0 {
			b = slices.Concat(r.samples(s), a)
		}
		shift, by, e := record.Aligned(a, b, 256, 100)
		same(t, "Aligned", all(shift, by, e), all(s, api.Ratio{Num: 0, Den: 1}, api.OK))
	}
}

// stretched returns samples whose spans are each shorter or longer by up to so many samples.
func stretched(r *numbers, l []float32, by int) []float32 {
	var out []float32
	for from := 0; from < len(l); {
		to := from
		for to < len(l) && l[to] == l[from] {
			to++
		}
		n := to - from + r.below(2*by+1) - by
		out = append(out, slices.Repeat([]float32{l[from]}, n)...)
		from = to
	}
	return out
}

func TestKeyedIsHeard(t *testing.T) {
	r := numbers{17}
	for range 400 {
		dot := 1 + r.below(record.MaxDot)
		var words []string
		samples := make([]float32, r.below(100))
		for range 1 + r.below(2) {
			word := ""
			for range 1 + r.below(record.MaxWord) {
				word += string(rune('A' + r.below(26)))
			}
			l, e := record.Keyed(word, dot)
			same(t, "Keyed", all(e), all(api.OK))
			words = append(words, word)
			samples = append(samples, stretched(&r, l, dot-1)...)
		}
		got, e := record.Heard(samples, dot)
		same(t, "Heard", all(dot, got, e), all(dot, words, api.OK))
	}
}

// P1: no function panics, whatever its arguments are.
func TestNoPanics(t *testing.T) {
	ints := []int{math.MinInt, -1000000000, -1, 0, 1, 9, 65536, 1000000000, math.MaxInt}
	floats := []float32{0, nan, inf, -inf, math.MaxFloat32, math.SmallestNonzeroFloat32}
	for _, a := range ints {
		for _, b := range ints {
			noPanic(t, "Draw", func() { record.Draw(a, b) })
			noPanic(t, "CheckRatio", func() { record.CheckRatio(api.Ratio{Num: a, Den: b}) })
			noPanic(t, "Assembled", func() { record.Assembled([]record.Packet{{Counter: 65535, Length: 8}}, a, b) })
			noPanic(t, "Aligned", func() { record.Aligned(units(1, 2), units(3), a, b) })
			noPanic(t, "Cut", func() { record.Cut(tape(), span(a, b)) })
			noPanic(t, "Cut", func() { record.Cut(record.Recording{Start: a, Step: b}, span(b, a)) })
			noPanic(t, "Joined", func() { record.Joined(record.Recording{Start: a, Step: b}, tape()) })
			noPanic(t, "Joined", func() { record.Joined(tape(), record.Recording{Start: a, Step: b}) })
			r := record.Recording{Start: a, Step: b, Samples: floats, Marks: []record.Marker{{Index: a}, {Index: b}}}
			noPanic(t, "Print", func() { record.Print(r) })
			noPanic(t, "CheckRecording", func() { record.CheckRecording(r) })
			for _, x := range floats {
				p := record.Packet{Station: a, Counter: b, Length: a, Samples: values{x}}
				noPanic(t, "Encode", func() { record.Encode(key, p) })
				noPanic(t, "Assembled", func() { record.Assembled([]record.Packet{p}, a, b) })
				noPanic(t, "Keyed", func() { record.Keyed("AZ", a) })
				noPanic(t, "Heard", func() { record.Heard([]float32{1, x}, a) })
				noPanic(t, "Four", func() { record.Four([4]float32{x, 1, x, 1}) })
				noPanic(t, "Unfour", func() { record.Unfour([4]complex64{complex(x, 1), complex(1, x)}) })
			}
		}
	}
	r := numbers{19}
	for range 2000 {
		s := make([]byte, r.below(80))
		for i := range s {
			s[i] = byte([]int{201, 'G', '\n', ' ', '-', '0', r.below(256)}[r.below(7)])
		}
		noPanic(t, "Seal", func() { record.Seal(key, s) })
		noPanic(t, "Received", func() { record.Received(key, s) })
		noPanic(t, "Unpack", func() { record.Unpack(append([]byte("GLS1"), s...)) })
		noPanic(t, "Parse", func() { record.Parse("recording 1 1\n" + string(s)) })
		noPanic(t, "IsName", func() { record.IsName(string(s)) })
		noPanic(t, "Keyed", func() { record.Keyed(string(s), 1) })
	}
}

// Arguments stay as they are, and a result that is changed changes neither an argument nor a later result.
func TestMemory(t *testing.T) {
	r, next := tape(), record.Recording{Start: 140, Step: 10, Samples: []float32{5}, Marks: []record.Marker{{Name: "x"}}}
	before := shown(r, next)
	spoil := func(x record.Recording) {
		for i := range x.Samples {
			x.Samples[i] = 99
		}
		for i := range x.Marks {
			x.Marks[i] = record.Marker{Index: 99, Name: "spoilt"}
		}
		_, _ = append(x.Samples, 99), append(x.Marks, record.Marker{})
	}
	for at := range 5 {
		part, _ := record.Cut(r, span(0, at))
		spoil(part)
		part, _ = record.Cut(r, span(at, 4))
		spoil(part)
	}
	for _, x := range [][2]record.Recording{{r, next}, {{Start: 100, Step: 10}, r}, {r, {Start: 140, Step: 10}}} {
		both, e := record.Joined(x[0], x[1])
		same(t, "Joined", all(e), all(api.OK))
		spoil(both)
	}
	same(t, "recordings after their parts were changed", all(shown(r, next)), all(before))

	l := units(1, 2, 3, 4, 5, 6, 7, 8, 9)
	s, _ := record.Pack(l)
	whole := slices.Clone(s)
	back, _ := record.Unpack(s)
	clear(back)
	record.Received(key, s)
	record.Seal(key, s)
	same(t, "a stream after it was unpacked", all(s), all(whole))
	list := packets(l, 1)
	got, _, _ := record.Assembled(list, 1, 9)
	clear(got)
	record.Aligned(l, l, 3, 1)
	record.Heard(l, 1)
	same(t, "samples after their results were changed", all(l, list), all(units(1, 2, 3, 4, 5, 6, 7, 8, 9), packets(l, 1)))
	a, _ := record.Keyed("C", 1)
	clear(a)
	a, _ = record.Keyed("C", 1)
	same(t, "Keyed again", all(a), all(keyedAs("+_+_______", 1)))
}

// A slice with room behind it is not written to.
func TestRoomIsLeft(t *testing.T) {
	room := []float32{1, 2, 77, 78}
	a := record.Recording{Start: 0, Step: 1, Samples: room[:2]}
	record.Joined(a, record.Recording{Start: 2, Step: 1, Samples: []float32{3, 4}})
	record.Cut(a, span(0, 1))
	record.Pack(room[:2])
	record.Heard(room[:2], 1)
	same(t, "what is behind a slice", all(room), all([]float32{1, 2, 77, 78}))
	bytes := []byte(strings.Repeat("x", 20))
	record.Seal(key, bytes[:3])
	record.Received(key, bytes[:3])
	record.Unpack(bytes[:14])
	same(t, "what is behind bytes", all(string(bytes)), all(strings.Repeat("x", 20)))
}

// The same arguments have the same results, also after other calls.
func TestDeterminism(t *testing.T) {
	r := numbers{23}
	l := r.samples(300)
	once := func() string {
		a, _ := record.Pack(l)
		b, c, _ := record.Aligned(l[:200], l[50:], 90, 20)
		d, _ := record.Heard(l, 2)
		e, _ := record.Draw(77, 200)
		f, g, _ := record.Assembled(packets(l, 3), 3, 310)
		return shown(a, b, c, d, e, f, g)
	}
	want := once()
	for range 5 {
		same(t, "results again", all(once()), all(want))
	}
}
