package record

import (
	"iter"

	"glideslope/api"
	"glideslope/common"
)

const (
	maxStation = 255
	headSize   = 5
	bodySize   = headSize + 2*Values
	sealSize   = Size - bodySize
)

// Seal returns the seal of bytes by a key.
func Seal(key api.Key, s []byte) (api.Key, api.Errno) {
	if len(s) > api.MaxStream {
		return api.Key{}, api.ErrLong
	}
	return sealed(key, s), api.OK
}

func sealed(key api.Key, s []byte) api.Key {
	for j, x := range key {
		factor, term := byte(10*j+7), byte(3*j+5)
		for _, b := range s {
			x = factor*x + b + term
		}
		key[j] = x
	}
	return key
}

// isSealed reports whether bytes, at least as many as a seal has, end with the seal of those before it.
func isSealed(key api.Key, s []byte) bool {
	from := len(s) - sealSize
	var seal api.Key
	copy(seal[:], s[from:])
	return seal == sealed(key, s[:from])
}

// checkPacket returns the first error of a packet, or OK.
func checkPacket(p Packet) api.Errno {
	return common.First(
		common.Between(p.Station, 0, maxStation),
		common.Between(p.Counter, 0, MaxCounter),
		common.Between(p.Length, 0, Values),
		CheckSamples(p.Samples[:]),
		common.Failed(p != trimmed(p), api.ErrForm))
}

// trimmed returns a packet with 0 for each sample from its length on.
func trimmed(p Packet) Packet {
	for i := range Values {
		if i >= p.Length {
			p.Samples[i] = 0
		}
	}
	return p
}

// halves returns the higher and the lower byte of an integer, plus 65536 if it is below 0.
func halves(n int) (byte, byte) { return byte(n >> 8), byte(n) }

// whole returns the number from 0 to 65535 with these bytes.
func whole(high, low byte) int { return int(high)<<8 | int(low) }

// signed returns the integer with these bytes, which has lost 65536 if it was below 0.
func signed(high, low byte) int { return int(int16(uint16(whole(high, low)))) }

// body visits the bytes of a packet before its seal.
func body(p Packet) iter.Seq[byte] {
	return func(yield func(byte) bool) {
		high, low := halves(p.Counter)
		for _, b := range [headSize]byte{Mark, byte(p.Station), high, low, byte(p.Length)} {
			if !yield(b) {
				return
			}
		}
		for _, x := range p.Samples {
			high, low := halves(unitOf(x))
			if !yield(high) || !yield(low) {
				return
			}
		}
	}
}

// Encode returns the bytes of a packet by a key.
func Encode(key api.Key, p Packet) ([Size]byte, api.Errno) {
	if e := checkPacket(p); e != api.OK {
		return [Size]byte{}, e
	}
	var s [Size]byte
	n := 0
	for b := range body(p) {
		s[n] = b
		n++
	}
	seal := sealed(key, s[:bodySize])
	copy(s[bodySize:], seal[:])
	return s, api.OK
}

// Decode returns the packet of bytes by a key.
func Decode(key api.Key, s [Size]byte) (Packet, api.Errno) {
	if s[0] != Mark {
		return Packet{}, api.ErrForm
	}
	if !isSealed(key, s[:]) {
		return Packet{}, api.ErrCheck
	}
	p := Packet{Station: int(s[1]), Counter: whole(s[2], s[3]), Length: int(s[4])}
	for i := range Values {
		at := headSize + 2*i
		p.Samples[i] = sampleOf(signed(s[at], s[at+1]))
	}
	if e := checkPacket(p); e != api.OK {
		return Packet{}, e
	}
	return p, api.OK
}

// Received returns the packets that are received by a key, and the spans of bytes that are skipped.
func Received(key api.Key, s []byte) ([]Packet, []api.Span, api.Errno) {
	if len(s) > MaxPackets*Size {
		return nil, nil, api.ErrLong
	}
	var packets []Packet
	var skipped []api.Span
	for i := 0; i < len(s); {
		if p, is := beginning(key, s[i:]); is {
			packets = append(packets, p)
			i += Size
			continue
		}
		skipped = common.Widened(skipped, i)
		i++
	}
	return packets, skipped, api.OK
}

// beginning returns the packet with which bytes begin, and whether they begin with one.
func beginning(key api.Key, s []byte) (Packet, bool) {
	var front [Size]byte
	if copy(front[:], s) < Size {
		return Packet{}, false
	}
	p, e := Decode(key, front)
	return p, e == api.OK
}

// placed is a packet with the index of its first sample.
type placed struct {
	Packet
	at int
}

// Assembled returns the samples of a station's packets, and the spans of samples that are missing.
func Assembled(l []Packet, station, n int) ([]float32, []api.Span, api.Errno) {
	if e := common.First(common.CheckList(l, MaxPackets, checkPacket), common.Between(station, 0, maxStation), common.Between(n, 0, api.MaxSamples)); e != api.OK {
		return nil, nil, e
	}
	samples := make([]float32, n)
	there := make([]bool, n)
	for _, p := range common.Mapped(l, func(p Packet) placed { return placed{p, Values * p.Counter} }) {
		if p.Station != station {
			continue
		}
		for i := range min(p.Length, n-p.at) {
			if !there[p.at+i] {
				samples[p.at+i], there[p.at+i] = p.Samples[i], true
			}
		}
	}
	missing := common.SpansWhere(there, func(is bool) bool { return !is })
	return samples, missing, api.OK
}
