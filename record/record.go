// Package record has names, ratios and samples, packets, recordings with marks, identifications, and streams. See shared/doc/01-record.md.
package record

import "glideslope/api"

// Limits of packets, recordings, marks, shifts and identifications.
const (
	Values     = 8
	Size       = 29
	Mark       = 201
	MaxPackets = 1024
	MaxCounter = 65535
	MaxStep    = 1000
	MaxMarks   = 16
	MaxReach   = 256
	MaxDot     = 16
	MaxWord    = 4
	MaxWords   = 64
)

// Packet is samples of a station with a counter.
type Packet struct {
	Station int
	Counter int
	Length  int
	Samples [Values]float32
}

// Marker is a name at an index of samples.
type Marker struct {
	Index int
	Name  string
}

// Recording is samples from a tick on, one after each step, and marks.
type Recording struct {
	Start   int
	Step    int
	Samples []float32
	Marks   []Marker
}

// first returns the first error that is not OK, or OK.
func first(l ...api.Errno) api.Errno {
	for _, e := range l {
		if e != api.OK {
			return e
		}
	}
	return api.OK
}

// failed returns an error if there is one, or OK.
func failed(wrong bool, e api.Errno) api.Errno {
	if wrong {
		return e
	}
	return api.OK
}

// between returns ErrRange if a number is not from low to high, or OK.
func between(n, low, high int) api.Errno {
	return failed(n < low || n > high, api.ErrRange)
}

// mapped returns what a function makes of each element of a list.
func mapped[A, B any](l []A, f func(A) B) []B {
	out := make([]B, len(l))
	for i, x := range l {
		out[i] = f(x)
	}
	return out
}

// widened returns ascending spans with one index more at their end; spans that touch are one span.
func widened(l []api.Span, i int) []api.Span {
	if n := len(l); n > 0 && l[n-1].To == i {
		l[n-1].To++
		return l
	}
	return append(l, api.Span{From: i, To: i + 1})
}
