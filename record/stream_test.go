package record_test

import (
	"slices"
	"testing"

	"glideslope/api"
	"glideslope/record"
)

// The tests of this file are those of P1.4 for Pack and Unpack.

func TestPack(t *testing.T) {
	for i, x := range []struct {
		l    []float32
		body []byte
	}{
		{nil, []byte{'G', 'L', 'S', '1', 0, 0}},
		{[]float32{1, -0.5}, []byte{'G', 'L', 'S', '1', 0, 2, 0, 255, 16, 248}},
		{[]float32{1024, -1024, 0.0625, -0.0625}, []byte{'G', 'L', 'S', '1', 0, 4, 64, 192, 0, 255, 0, 0, 1, 255}},
		{make([]float32, 258), append([]byte{'G', 'L', 'S', '1', 1, 2}, make([]byte, 516)...)},
		{make([]float32, 4096), append([]byte{'G', 'L', 'S', '1', 16, 0}, make([]byte, 8192)...)},
	} {
		s, e := record.Pack(x.l)
		same(t, "Pack", all(i, s, e), all(i, withSeal(zero, x.body), api.OK))
		l, e := record.Unpack(s)
		same(t, "Unpack", all(i, l, e), all(i, x.l, api.OK))
	}
}

func TestPackErrors(t *testing.T) {
	for i, x := range []struct {
		l []float32
		e api.Errno
	}{
		{append(make([]float32, 4096), nan), api.ErrMany}, {[]float32{1, nan, 0.01}, api.ErrForm}, {[]float32{1, 0.01, nan}, api.ErrRange}, {[]float32{-1024.0625}, api.ErrRange},
	} {
		s, e := record.Pack(x.l)
		same(t, "Pack with errors", all(i, s, e), all(i, []byte{}, x.e))
	}
}

func TestUnpackErrors(t *testing.T) {
	head := func(high, low byte, n int) []byte {
		return append([]byte{'G', 'L', 'S', '1', high, low}, make([]byte, n)...)
	}
	for i, x := range []struct {
		s []byte
		e api.Errno
	}{
		{make([]byte, 400001), api.ErrLong},
		{make([]byte, 400000), api.ErrForm},
		{nil, api.ErrTorn},
		{[]byte("GLS1"), api.ErrTorn},
		{make([]byte, 13), api.ErrTorn},
		{head(0, 9, 7), api.ErrTorn},
		{make([]byte, 14), api.ErrForm},
		{withSeal(zero, []byte{'G', 'L', 'S', '2', 0, 0}), api.ErrForm},
		{withSeal(zero, []byte{'g', 'L', 'S', '1', 0, 7}), api.ErrForm},
		{withSeal(zero, head(0, 1, 0)), api.ErrShape},
		{withSeal(zero, head(0, 1, 1)), api.ErrShape},
		{withSeal(zero, head(0, 1, 3)), api.ErrShape},
		{withSeal(zero, head(1, 0, 2)), api.ErrShape},
		{head(0, 0, 9), api.ErrShape},
		{head(0, 0, 8), api.ErrCheck},
		{withSeal(key, head(0, 0, 0)), api.ErrCheck},
		{withSeal(key, head(16, 1, 8194)), api.ErrCheck},
		{withSeal(zero, head(16, 1, 8194)), api.ErrMany},
		{withSeal(zero, append(head(16, 1, 8193), 64)), api.ErrMany},
		{withSeal(zero, head(255, 255, 131070)), api.ErrMany},
		{withSeal(zero, []byte{'G', 'L', 'S', '1', 0, 1, 64, 1}), api.ErrRange},
		{withSeal(zero, []byte{'G', 'L', 'S', '1', 0, 2, 0, 128, 1, 0}), api.ErrRange},
		{withSeal(zero, []byte{'G', 'L', 'S', '1', 0, 1, 191, 255}), api.ErrRange},
		{withSeal(zero, []byte{'G', 'L', 'S', '1', 0, 1, 127, 255}), api.ErrRange},
	} {
		l, e := record.Unpack(x.s)
		same(t, "Unpack with errors", all(i, l, e), all(i, []float32{}, x.e))
	}
}

// Any one byte of a stream that is another one is found out.
func TestUnpackDamaged(t *testing.T) {
	s, _ := record.Pack(units(1, -2, 300, -400, 16384))
	for at := range s {
		for _, by := range []byte{1, 128, 255} {
			damaged := slices.Clone(s)
			damaged[at] ^= by
			if l, e := record.Unpack(damaged); e == api.OK || len(l) > 0 {
				t.Errorf("Unpack with another byte %d: got %v %v", at, l, e)
			}
		}
	}
	for n := range s {
		if l, e := record.Unpack(s[:n]); e == api.OK || len(l) > 0 {
			t.Errorf("Unpack of %d bytes: got %v %v", n, l, e)
		}
	}
}
