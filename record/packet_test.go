package record_test

import (
	"math"
	"slices"
	"testing"

	"glideslope/api"
	"glideslope/record"
)

// The tests of this file are those of P1.2.

// values is the samples of a packet.
type values = [record.Values]float32

// example4 returns the packet of the chapter's example 4.
func example4() record.Packet {
	return record.Packet{Station: 3, Counter: 258, Length: 2, Samples: values{1, -0.5}}
}

// encoded returns the bytes of a packet.
func encoded(t *testing.T, p record.Packet) []byte {
	t.Helper()
	s, e := record.Encode(key, p)
	same(t, "Encode", all(e), all(api.OK))
	return s[:]
}

func TestSeal(t *testing.T) {
	r := numbers{1}
	long := make([]byte, api.MaxStream)
	for i := range long {
		long[i] = byte(r.below(256))
	}
	for i, x := range []struct {
		key  api.Key
		s    []byte
		seal api.Key
	}{
		{zero, []byte{5}, api.Key{10, 13, 16, 19, 22, 25, 28, 31}},
		{zero, []byte{5, 1}, api.Key{76, 230, 188, 206, 28, 166, 108, 110}},
		{key, nil, key},
		{key, []byte{0}, sealOf(key, []byte{0})},
		{key, []byte{255, 255, 255}, sealOf(key, []byte{255, 255, 255})},
		{key, long, sealOf(key, long)},
	} {
		seal, e := record.Seal(x.key, x.s)
		same(t, "Seal", all(i, seal, e), all(i, x.seal, api.OK))
	}
	seal, e := record.Seal(key, append(long, 0))
	same(t, "Seal of too many bytes", all(seal, e), all(zero, api.ErrLong))
}

func TestSealsDiffer(t *testing.T) {
	s := []byte("the same bytes but for one")
	a, _ := record.Seal(key, s)
	for at := range s {
		other := slices.Clone(s)
		other[at] ^= byte(at + 1)
		b, _ := record.Seal(key, other)
		for j := range a {
			if a[j] == b[j] {
				t.Errorf("byte %d of the seal is the same after a change of the byte %d", j, at)
			}
		}
	}
	for j := range key {
		other := key
		other[j]++
		if b, _ := record.Seal(other, s); a == b {
			t.Errorf("the seal is the same after a change of the byte %d of the key", j)
		}
	}
}

func TestEncode(t *testing.T) {
	for i, x := range []struct {
		p    record.Packet
		body []byte
	}{
		{example4(), []byte{201, 3, 1, 2, 2, 0, 16, 255, 248, 20: 0}},
		{record.Packet{}, []byte{201, 20: 0}},
		{record.Packet{Station: 255, Counter: 65535, Length: 8, Samples: values{1024, -1024, 0.0625, -0.0625, 16, -16, 15.9375, 1}},
			[]byte{201, 255, 255, 255, 8, 64, 0, 192, 0, 0, 1, 255, 255, 1, 0, 255, 0, 0, 255, 0, 16}},
		{record.Packet{Length: 1, Samples: values{float32(math.Copysign(0, -1)), float32(math.Copysign(0, -1))}}, []byte{201, 0, 0, 0, 1, 20: 0}},
	} {
		s, e := record.Encode(key, x.p)
		same(t, "Encode", all(i, s[:], e), all(i, withSeal(key, x.body), api.OK))
		p, e := record.Decode(key, s)
		if p != x.p || e != api.OK {
			t.Errorf("Decode %d: got %v %v, want %v", i, p, e, x.p)
		}
	}
}

func TestEncodeErrors(t *testing.T) {
	for i, x := range []struct {
		p record.Packet
		e api.Errno
	}{
		{record.Packet{Station: -1}, api.ErrRange}, {record.Packet{Station: 256}, api.ErrRange},
		{record.Packet{Counter: -1}, api.ErrRange}, {record.Packet{Counter: 65536}, api.ErrRange},
		{record.Packet{Length: -1}, api.ErrRange}, {record.Packet{Length: 9}, api.ErrRange},
		{record.Packet{Length: 2, Samples: values{0, 1024.0625}}, api.ErrRange},
		{record.Packet{Length: 2, Samples: values{0, 0.01}}, api.ErrRange},
		{record.Packet{Length: 2, Samples: values{nan}}, api.ErrForm},
		{record.Packet{Length: 2, Samples: values{inf, 0.01}}, api.ErrForm},
		{record.Packet{Length: 2, Samples: values{0.01, inf}}, api.ErrRange},
		{record.Packet{Samples: values{0.0625}}, api.ErrForm},
		{record.Packet{Length: 7, Samples: values{7: 1}}, api.ErrForm},
		{record.Packet{Length: 1, Samples: values{0, 1, 0.01}}, api.ErrRange},  // a sample's error comes before the length's
		{record.Packet{Length: -1, Samples: values{nan}}, api.ErrRange},        // the length's comes before the samples'
		{record.Packet{Station: 256, Samples: values{nan}}, api.ErrRange},      // and so does the station's
		{record.Packet{Counter: 70000, Samples: values{nan, 1}}, api.ErrRange}, // and the counter's
		{record.Packet{Station: math.MinInt, Counter: math.MaxInt, Length: math.MaxInt}, api.ErrRange},
	} {
		s, e := record.Encode(key, x.p)
		same(t, "Encode with errors", all(i, s, e), all(i, [record.Size]byte{}, x.e))
		_, _, e = record.Assembled([]record.Packet{{}, x.p}, 300, -1)
		same(t, "Assembled with packets with errors", all(i, e), all(i, x.e))
	}
}

func TestDecodeErrors(t *testing.T) {
	whole := encoded(t, example4())
	for i, x := range []struct {
		at   int
		b    byte
		seal bool // whether the seal is that of the changed bytes
		e    api.Errno
	}{
		{0, 200, true, api.ErrForm}, {0, 200, false, api.ErrForm}, {0, 0, true, api.ErrForm},
		{1, 4, false, api.ErrCheck}, {20, 1, false, api.ErrCheck}, {21, whole[21] + 1, false, api.ErrCheck}, {28, whole[28] + 1, false, api.ErrCheck},
		{4, 9, true, api.ErrRange}, {4, 255, true, api.ErrRange}, {4, 9, false, api.ErrCheck},
		{4, 8, true, api.OK}, {4, 2, true, api.OK}, {4, 1, true, api.ErrForm}, {4, 0, true, api.ErrForm},
		{5, 63, true, api.OK}, {5, 64, true, api.ErrRange}, {5, 128, true, api.ErrRange}, {7, 192, true, api.OK}, {7, 191, true, api.ErrRange},
		{9, 1, true, api.ErrForm}, {19, 64, true, api.ErrForm}, {19, 65, true, api.ErrRange}, {20, 1, true, api.ErrForm}, // of what is from the length on the range counts first
		{1, 255, true, api.OK}, {2, 255, true, api.OK}, {3, 255, true, api.OK},
	} {
		s := slices.Clone(whole)
		s[x.at] = x.b
		if x.seal {
			s = withSeal(key, s[:21])
		}
		p, e := record.Decode(key, [record.Size]byte(s))
		same(t, "Decode of changed bytes", all(i, e), all(i, x.e))
		if e != api.OK && p != (record.Packet{}) {
			t.Errorf("Decode %d: got a packet beside an error: %v", i, p)
		}
	}
	_, e := record.Decode(zero, [record.Size]byte(whole))
	same(t, "Decode by another key", all(e), all(api.ErrCheck))
}

func TestDecodeBounds(t *testing.T) {
	for i, x := range []struct {
		high, low byte
		e         api.Errno
		x         float32
	}{
		{64, 0, api.OK, 1024}, {64, 1, api.ErrRange, 0}, {127, 255, api.ErrRange, 0}, {128, 0, api.ErrRange, 0},
		{191, 255, api.ErrRange, 0}, {192, 0, api.OK, -1024}, {255, 255, api.OK, -0.0625}, {0, 1, api.OK, 0.0625},
	} {
		s := withSeal(key, []byte{201, 0, 0, 0, 1, x.high, x.low, 20: 0})
		p, e := record.Decode(key, [record.Size]byte(s))
		same(t, "Decode of an integer", all(i, p.Samples[0], e), all(i, x.x, x.e))
	}
}

func TestReceived(t *testing.T) {
	p, q := example4(), record.Packet{Station: 7, Counter: 9, Length: 8, Samples: values{1, 2, 3, 4, 5, 6, 7, 8}}
	a, b := encoded(t, p), encoded(t, q)
	damaged := slices.Clone(a)
	damaged[10]++
	wrong := withSeal(key, []byte{201, 0, 0, 0, 9, 20: 0}) // sealed, and no packet
	for i, x := range []struct {
		s       [][]byte
		l       []record.Packet
		skipped []api.Span
	}{
		{nil, nil, nil},
		{[][]byte{a}, []record.Packet{p}, nil},
		{[][]byte{a, b, a}, []record.Packet{p, q, p}, nil},
		{[][]byte{{1, 2}, a, {5}}, []record.Packet{p}, []api.Span{span(0, 2), span(31, 32)}},
		{[][]byte{a, {201}, b, {201, 201}}, []record.Packet{p, q}, []api.Span{span(29, 30), span(59, 61)}},
		{[][]byte{damaged, b}, []record.Packet{q}, []api.Span{span(0, 29)}},
		{[][]byte{a, damaged, wrong, b}, []record.Packet{p, q}, []api.Span{span(29, 87)}},
		{[][]byte{a[:28]}, nil, []api.Span{span(0, 28)}},
		{[][]byte{a[:20], b}, []record.Packet{q}, []api.Span{span(0, 20)}},
		{[][]byte{a, b[:28]}, []record.Packet{p}, []api.Span{span(29, 57)}},
		{[][]byte{a[1:], b}, []record.Packet{q}, []api.Span{span(0, 28)}},
		{[][]byte{make([]byte, 29)}, nil, []api.Span{span(0, 29)}},
	} {
		l, skipped, e := record.Received(key, slices.Concat(x.s...))
		same(t, "Received", all(i, l, skipped, e), all(i, x.l, x.skipped, api.OK))
	}
	l, skipped, e := record.Received(zero, a)
	same(t, "Received by another key", all(l, skipped, e), all([]record.Packet{}, []api.Span{span(0, 29)}, api.OK))
}

// A packet whose last byte is the mark of another one: which of them is received depends on where the search begins.
func TestReceivedOverlap(t *testing.T) {
	p, q := record.Packet{}, example4()
	for encoded(t, p)[28] != record.Mark {
		p.Counter++
	}
	both := append(encoded(t, p), encoded(t, q)[1:]...)
	l, skipped, e := record.Received(key, both)
	same(t, "Received the first of two", all(l, skipped, e), all([]record.Packet{p}, []api.Span{span(29, 57)}, api.OK))
	both[0]--
	l, skipped, e = record.Received(key, both)
	same(t, "Received the second of two", all(l, skipped, e), all([]record.Packet{q}, []api.Span{span(0, 28)}, api.OK))
}

func TestReceivedMany(t *testing.T) {
	s := slices.Repeat(encoded(t, example4()), record.MaxPackets)
	l, skipped, e := record.Received(key, s)
	same(t, "Received as many as may be", all(len(l), skipped, e), all(1024, []api.Span{}, api.OK))
	l, skipped, e = record.Received(key, append(s, 0))
	same(t, "Received too many bytes", all(l, skipped, e), all([]record.Packet{}, []api.Span{}, api.ErrLong))
}

func TestAssembled(t *testing.T) {
	full := record.Packet{Station: 9, Length: 8, Samples: values{1, 2, 3, 4, 5, 6, 7, 8}}
	short := record.Packet{Station: 9, Counter: 1, Length: 2, Samples: values{10, 20}}
	again := record.Packet{Station: 9, Counter: 1, Length: 4, Samples: values{5, 6, 7, 0}}
	last := record.Packet{Station: 9, Counter: 511, Length: 8, Samples: values{7: 8}}
	far := record.Packet{Station: 9, Counter: 65535, Length: 8}
	other := record.Packet{Station: 0, Counter: 0, Length: 3, Samples: values{1, 1, 1}}
	for i, x := range []struct {
		l          []record.Packet
		station, n int
		samples    []float32
		missing    []api.Span
	}{
		{nil, 9, 0, nil, nil},
		{nil, 9, 3, []float32{0, 0, 0}, []api.Span{span(0, 3)}},
		{[]record.Packet{full}, 9, 8, []float32{1, 2, 3, 4, 5, 6, 7, 8}, nil},
		{[]record.Packet{full}, 9, 5, []float32{1, 2, 3, 4, 5}, nil},
		{[]record.Packet{full}, 9, 0, nil, nil},
		{[]record.Packet{full}, 9, 10, []float32{1, 2, 3, 4, 5, 6, 7, 8, 0, 0}, []api.Span{span(8, 10)}},
		{[]record.Packet{short, full}, 9, 11, []float32{1, 2, 3, 4, 5, 6, 7, 8, 10, 20, 0}, []api.Span{span(10, 11)}},
		{[]record.Packet{short, again}, 9, 13, []float32{8: 10, 9: 20, 10: 7, 11: 0, 12: 0}, []api.Span{span(0, 8), span(12, 13)}},
		{[]record.Packet{again, short}, 9, 13, []float32{8: 5, 9: 6, 10: 7, 11: 0, 12: 0}, []api.Span{span(0, 8), span(12, 13)}},
		{[]record.Packet{far, other}, 9, 2, []float32{0, 0}, []api.Span{span(0, 2)}},
		{[]record.Packet{full, other}, 0, 4, []float32{1, 1, 1, 0}, []api.Span{span(3, 4)}},
		{[]record.Packet{full, other}, 255, 1, []float32{0}, []api.Span{span(0, 1)}},
		{[]record.Packet{last, full, far}, 9, 4096, []float32{0: 1, 1: 2, 2: 3, 3: 4, 4: 5, 5: 6, 6: 7, 7: 8, 4095: 8}, []api.Span{span(8, 4088)}},
		{slices.Repeat([]record.Packet{full}, 1024), 9, 1, []float32{1}, nil},
	} {
		samples, missing, e := record.Assembled(x.l, x.station, x.n)
		same(t, "Assembled", all(i, samples, missing, e), all(i, x.samples, x.missing, api.OK))
	}
}

func TestAssembledErrors(t *testing.T) {
	bad := record.Packet{Length: 1, Samples: values{nan}}
	for i, x := range []struct {
		l          []record.Packet
		station, n int
		e          api.Errno
	}{
		{make([]record.Packet, 1025), 9, 2, api.ErrMany},
		{slices.Repeat([]record.Packet{bad}, 1025), -1, -1, api.ErrMany},
		{[]record.Packet{bad}, -1, -1, api.ErrForm},
		{[]record.Packet{{Station: 256}, bad}, 9, 9, api.ErrRange},
		{[]record.Packet{{}, bad, {Station: 256}}, 9, 9, api.ErrForm},
		{nil, -1, 2, api.ErrRange}, {nil, 256, 2, api.ErrRange}, {nil, 9, -1, api.ErrRange}, {nil, 9, 4097, api.ErrRange},
		{nil, math.MinInt, math.MaxInt, api.ErrRange}, {[]record.Packet{{Length: 8}}, 0, math.MinInt, api.ErrRange},
	} {
		samples, missing, e := record.Assembled(x.l, x.station, x.n)
		same(t, "Assembled with errors", all(i, samples, missing, e), all(i, []float32{}, []api.Span{}, x.e))
	}
}
