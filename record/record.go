// Package record has names, ratios and samples, packets, recordings with marks, identifications, and streams. See shared/doc/01-record.md.
package record

// Limits of packets, recordings, marks, shifts and identifications.
const (
	Values     = 8
	Size       = 29
	Mark       = 201
	MaxPackets = 1024
	MaxCounter = 65535
	MaxStep    = 1000
	MaxMarks   = 16
	MaxReach   = 256
	MaxDot     = 16
	MaxWord    = 4
	MaxWords   = 64
)

// Packet is samples of a station with a counter.
type Packet struct {
	Station int
	Counter int
	Length  int
	Samples [Values]float32
}

// Marker is a name at an index of samples.
type Marker struct {
	Index int
	Name  string
}

// Recording is samples from a tick on, one after each step, and marks.
type Recording struct {
	Start   int
	Step    int
	Samples []float32
	Marks   []Marker
}
