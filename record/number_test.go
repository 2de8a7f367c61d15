package record_test

import (
	"math"
	"math/big"
	"slices"
	"strings"
	"testing"

	"glideslope/api"
	"glideslope/record"
)

// The tests of this file are those of P1.1.

func TestNameBytes(t *testing.T) {
	const letters = "ABCDEFGHIJKLMNOPQRSTUVWXYZabcdefghijklmnopqrstuvwxyz"
	for b := range 256 {
		c := string([]byte{byte(b)})
		same(t, "IsName of the byte "+c, all(record.IsName(c)), all(strings.Contains(letters, c)))
		same(t, "IsName with the byte "+c, all(record.IsName("x"+c)), all(strings.Contains(letters+"0123456789_", c)))
		same(t, "IsName with the inner byte "+c, all(record.IsName("x"+c+"y")), all(strings.Contains(letters+"0123456789_", c)))
	}
}

func TestNameLengths(t *testing.T) {
	same(t, "IsName of nothing", all(record.IsName("")), all(false))
	for n := 1; n < 40; n++ {
		same(t, "IsName by length", all(n, record.IsName(strings.Repeat("a", n))), all(n, n <= 24))
	}
	same(t, "IsName with an accent", all(record.IsName("\u00e9a")), all(false))
	same(t, "IsName with an accent in it", all(record.IsName("a\u00e9")), all(false))
}

// drawn is the permutation as the chapter defines it, with big integers.
func drawn(number, n int) []int {
	var l []int
	for i := range n {
		l = append(l, i)
	}
	x := big.NewInt(int64(number))
	for i := n - 1; i > 0; i-- {
		x.Mul(x, big.NewInt(48271))
		x.Add(x, big.NewInt(11))
		x.Mod(x, big.NewInt(2147483629))
		j := new(big.Int).Mod(x, big.NewInt(int64(i+1))).Int64()
		l[i], l[j] = l[j], l[i]
	}
	return l
}

func TestDraw(t *testing.T) {
	l, e := record.Draw(0, 3)
	same(t, "Draw of example 1", all(l, e), all([]int{1, 0, 2}, api.OK))
	for _, number := range []int{0, 1, 2, 44488, 123456789, 999999998, 999999999} {
		for _, n := range []int{0, 1, 2, 3, 10, 255, 256} {
			l, e := record.Draw(number, n)
			same(t, "Draw", all(number, n, l, e), all(number, n, drawn(number, n), api.OK))
			slices.Sort(l)
			for i, x := range l {
				same(t, "Draw has all elements", all(x), all(i))
			}
		}
	}
}

func TestDrawErrors(t *testing.T) {
	for _, x := range [][2]int{{-1, 3}, {1000000000, 3}, {0, -1}, {0, 257}, {-1, 257}, {math.MinInt, 0}, {math.MaxInt, math.MaxInt}, {0, math.MinInt}} {
		l, e := record.Draw(x[0], x[1])
		same(t, "Draw with errors", all(x, l, e), all(x, []int{}, api.ErrRange))
	}
}

func TestCheckRatio(t *testing.T) {
	for _, x := range []struct {
		num, den int
		e        api.Errno
	}{
		{0, 1, api.OK}, {1, 1, api.OK}, {-1, 1, api.OK}, {3, 4, api.OK}, {-3, 4, api.OK}, {999999999, 1, api.OK},
		{-999999999, 1, api.OK}, {1, 999999999, api.OK}, {999999999, 999999998, api.OK},
		{0, 2, api.ErrForm}, {0, 999999999, api.ErrForm}, {2, 4, api.ErrForm}, {-2, 4, api.ErrForm}, {2, 2, api.ErrForm},
		{-999999999, 999999999, api.ErrForm}, {999999999, 3, api.ErrForm}, {15, 25, api.ErrForm},
		{1000000000, 1, api.ErrRange}, {-1000000000, 1, api.ErrRange}, {1, 0, api.ErrRange}, {0, 0, api.ErrRange},
		{1, -1, api.ErrRange}, {1, 1000000000, api.ErrRange}, {2, 1000000000, api.ErrRange}, {1000000000, 2, api.ErrRange},
		{math.MinInt, 1, api.ErrRange}, {math.MinInt, math.MinInt, api.ErrRange}, {1, math.MaxInt, api.ErrRange},
	} {
		same(t, "CheckRatio", all(x.num, x.den, record.CheckRatio(api.Ratio{Num: x.num, Den: x.den})), all(x.num, x.den, x.e))
	}
}

func TestCheckSample(t *testing.T) {
	for n := -16400; n <= 16400; n++ {
		want := api.ErrRange
		if n >= -16384 && n <= 16384 {
			want = api.OK
		}
		same(t, "CheckSample of an integer", all(n, record.CheckSample(float32(n)/16)), all(n, want))
		same(t, "CheckSample between two integers", all(n, record.CheckSample((float32(n)+0.5)/16)), all(n, api.ErrRange))
	}
	for _, x := range []struct {
		x float32
		e api.Errno
	}{
		{float32(math.Copysign(0, -1)), api.OK}, {nan, api.ErrForm}, {inf, api.ErrForm}, {-inf, api.ErrForm},
		{math.MaxFloat32, api.ErrRange}, {-math.MaxFloat32, api.ErrRange}, {math.SmallestNonzeroFloat32, api.ErrRange},
		{-math.SmallestNonzeroFloat32, api.ErrRange}, {0.1, api.ErrRange}, {1 << 20, api.ErrRange}, {1 << 40, api.ErrRange},
		{math.Nextafter32(1, 2), api.ErrRange}, {math.Nextafter32(1024, 0), api.ErrRange}, {math.Nextafter32(1024, 2000), api.ErrRange},
	} {
		same(t, "CheckSample", all(x.x, record.CheckSample(x.x)), all(x.x, x.e))
	}
}

func TestCheckSamples(t *testing.T) {
	late := make([]float32, 4096)
	late[4095] = nan
	many := make([]float32, 4097)
	many[0] = nan
	for i, x := range []struct {
		l []float32
		e api.Errno
	}{
		{nil, api.OK}, {[]float32{}, api.OK}, {make([]float32, 4096), api.OK}, {many, api.ErrMany}, {late, api.ErrForm},
		{[]float32{1, nan, 0.01}, api.ErrForm}, {[]float32{1, 0.01, nan}, api.ErrRange}, {[]float32{1025}, api.ErrRange},
	} {
		same(t, "CheckSamples", all(i, record.CheckSamples(x.l)), all(i, x.e))
	}
}

func TestFour(t *testing.T) {
	for i, x := range []struct {
		l [4]float32
		p [4]complex64
	}{
		{[4]float32{1, 2, 3, 4}, [4]complex64{10, -2 + 2i, -2, -2 - 2i}},
		{[4]float32{}, [4]complex64{}},
		{[4]float32{1, 0, 0, 0}, [4]complex64{1, 1, 1, 1}},
		{[4]float32{0, 1, 0, 0}, [4]complex64{1, -1i, -1, 1i}},
		{[4]float32{0, 0, 1, 0}, [4]complex64{1, -1, 1, -1}},
		{[4]float32{0, 0, 0, 1}, [4]complex64{1, 1i, -1, -1i}},
		{[4]float32{1024, 1024, 1024, 1024}, [4]complex64{4096, 0, 0, 0}},
		{[4]float32{-1024, 1024, -1024, 1024}, [4]complex64{0, 0, -4096, 0}},
		{[4]float32{0.0625, 1024, -0.0625, -1024}, [4]complex64{0, 0.125 - 2048i, 0, 0.125 + 2048i}},
	} {
		p, e := record.Four(x.l)
		if p != x.p || e != api.OK {
			t.Errorf("Four %d: got %v %v, want %v", i, p, e, x.p)
		}
		l, e := record.Unfour(x.p)
		if l != x.l || e != api.OK {
			t.Errorf("Unfour %d: got %v %v, want %v", i, l, e, x.l)
		}
	}
}

func TestFourErrors(t *testing.T) {
	for i, x := range []struct {
		l [4]float32
		e api.Errno
	}{
		{[4]float32{0, 0, 0, nan}, api.ErrForm}, {[4]float32{0, -inf, 0.01, 0}, api.ErrForm},
		{[4]float32{0.01, nan, 0, 0}, api.ErrRange}, {[4]float32{0, 0, 0, 1024.0625}, api.ErrRange},
	} {
		p, e := record.Four(x.l)
		same(t, "Four with errors", all(i, p, e), all(i, [4]complex64{}, x.e))
	}
}

func TestUnfourErrors(t *testing.T) {
	for i, x := range []struct {
		p [4]complex64
		e api.Errno
	}{
		{[4]complex64{10, -2 + 3i, -2, -2 - 2i}, api.ErrForm},
		{[4]complex64{10 + 1i, -2 + 2i, -2, -2 - 2i}, api.ErrForm},
		{[4]complex64{10, -2 + 2i, -2 + 1i, -2 - 2i}, api.ErrForm},
		{[4]complex64{0, 1, 0, 0}, api.ErrForm},
		{[4]complex64{0.0625, 0, 0, 0}, api.ErrForm},           // its samples are 1/64
		{[4]complex64{2048, 2048, 2048, 2048}, api.ErrForm},    // its first sample is 2048
		{[4]complex64{4096, 4096, 4096, 4096i}, api.ErrForm},   // in its range, and no transform
		{[4]complex64{4096.0625, 0, 0, 0}, api.ErrRange},       // above the range
		{[4]complex64{0, 0, -4096.0625i, 0}, api.ErrRange},     // below the range
		{[4]complex64{0, 0, 0, 0.03125}, api.ErrRange},         // no multiple of 1/16
		{[4]complex64{0, 0.03125i, 0, 0}, api.ErrRange},        // no multiple of 1/16
		{[4]complex64{math.MaxFloat32, 0, 0, 0}, api.ErrRange}, // far above
		{[4]complex64{complex(nan, 0), 0, 0, 0}, api.ErrForm},
		{[4]complex64{0, complex(0, nan), 0, 0}, api.ErrForm},
		{[4]complex64{0, 0, complex(inf, 0), 0}, api.ErrForm},
		{[4]complex64{0, 0, 0, complex(0, -inf)}, api.ErrForm},
		{[4]complex64{5000, 0.03125, 0, complex(0, nan)}, api.ErrForm}, // no number comes before any range
	} {
		l, e := record.Unfour(x.p)
		same(t, "Unfour with errors", all(i, l, e), all(i, [4]float32{}, x.e))
	}
}
