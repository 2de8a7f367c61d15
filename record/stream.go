package record

import (
	"glideslope/api"
	"glideslope/common"
)

const (
	streamMark = "GLS1"
	streamHead = len(streamMark) + 2
	streamLess = streamHead + sealSize // bytes of a stream without samples
)

// Pack returns the stream of samples.
func Pack(l []float32) ([]byte, api.Errno) {
	if e := CheckSamples(l); e != api.OK {
		return nil, e
	}
	high, low := halves(len(l))
	s := append([]byte(streamMark), high, low)
	s = append(s, common.Mapped(l, func(x float32) byte {
		high, _ := halves(unitOf(x))
		return high
	})...)
	s = append(s, common.Mapped(l, func(x float32) byte {
		_, low := halves(unitOf(x))
		return low
	})...)
	seal := sealed(api.Key{}, s)
	return append(s, seal[:]...), api.OK
}

// Unpack returns the samples of a stream.
func Unpack(s []byte) ([]float32, api.Errno) {
	if e := checkStream(s); e != api.OK {
		return nil, e
	}
	n := streamNumber(s)
	highs, lows := s[streamHead:streamHead+n], s[streamHead+n:streamHead+2*n]
	l := make([]float32, n)
	for i := range n {
		l[i] = sampleOf(signed(highs[i], lows[i]))
	}
	if e := CheckSamples(l); e != api.OK {
		return nil, e
	}
	return l, api.OK
}

// checkStream returns the first error of a stream before those of its samples, or OK.
func checkStream(s []byte) api.Errno {
	switch {
	case len(s) > api.MaxStream:
		return api.ErrLong
	case len(s) < streamLess:
		return api.ErrTorn
	case string(s[:len(streamMark)]) != streamMark:
		return api.ErrForm
	case len(s) != streamLess+2*streamNumber(s):
		return api.ErrShape
	case !isSealed(api.Key{}, s):
		return api.ErrCheck
	}
	return api.OK
}

// streamNumber returns the number of samples that the head of a stream tells.
func streamNumber(s []byte) int {
	return whole(s[len(streamMark)], s[len(streamMark)+1])
}
