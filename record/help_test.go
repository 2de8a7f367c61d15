package record_test

import (
	"fmt"
	"math"
	"slices"
	"strings"
	"testing"

	"glideslope/api"
	"glideslope/record"
)

var (
	nan  = float32(math.NaN())
	inf  = float32(math.Inf(1))
	zero = api.Key{}
	key  = api.Key{9, 8, 7, 6, 5, 4, 3, 2}
)

// shown writes values so that all that is different looks different, but for nil and empty lists.
func shown(l ...any) string {
	return strings.ReplaceAll(fmt.Sprintf("%#v", l), "(nil)", "{}")
}

// same compares results with the expected ones.
func same(t *testing.T, what string, got, want []any) {
	t.Helper()
	if g, w := shown(got...), shown(want...); g != w {
		t.Errorf("%s:\n got %s\nwant %s", what, g, w)
	}
}

// all is its arguments as a list: the results of a call.
func all(l ...any) []any { return l }

func span(from, to int) api.Span { return api.Span{From: from, To: to} }

// units returns the samples of integers.
func units(l ...int) []float32 {
	var out []float32
	for _, n := range l {
		out = append(out, float32(n)/16)
	}
	return out
}

// tape returns the recording R of the chapter's examples.
func tape() record.Recording {
	return record.Recording{
		Start:   100,
		Step:    10,
		Samples: []float32{1, 2, 3, 4},
		Marks:   []record.Marker{{Index: 1, Name: "outer"}, {Index: 3, Name: "inner"}},
	}
}

// changed returns R after a change.
func changed(change func(r *record.Recording)) record.Recording {
	r := tape()
	change(&r)
	return r
}

// copied returns a recording that shares nothing with another one.
func copied(r record.Recording) record.Recording {
	r.Samples, r.Marks = slices.Clone(r.Samples), slices.Clone(r.Marks)
	return r
}

// numbers is a row of numbers that look random, and are the same in each run.
type numbers struct{ x uint64 }

func (r *numbers) below(n int) int {
	r.x = r.x*6364136223846793005 + 1442695040888963407
	return int((r.x >> 33) % uint64(n))
}

// samples returns n samples of the row.
func (r *numbers) samples(n int) []float32 {
	l := make([]int, n)
	for i := range l {
		l[i] = r.below(2*api.MaxUnit+1) - api.MaxUnit
	}
	return units(l...)
}

// sealOf is the seal as the chapter defines it, with integers.
func sealOf(key api.Key, s []byte) api.Key {
	var out api.Key
	for j := range 8 {
		x := int(key[j])
		for _, b := range s {
			x = ((10*j+7)*x + int(b) + 3*j + 5) % 256
		}
		out[j] = byte(x)
	}
	return out
}

// withSeal returns bytes with their seal behind them.
func withSeal(key api.Key, s []byte) []byte {
	seal := sealOf(key, s)
	return append(slices.Clone(s), seal[:]...)
}

// noPanic fails the test if a function panics.
func noPanic(t *testing.T, what string, f func()) {
	t.Helper()
	defer func() {
		if x := recover(); x != nil {
			t.Errorf("%s panics: %v", what, x)
		}
	}()
	f()
}
