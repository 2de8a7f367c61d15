package aerial

import (
	"math"

	"glideslope/api"
	"glideslope/common"
)

// changed returns an array in which an aerial is changed.
func changed(l []Aerial, i int, change func(a Aerial) Aerial) []Aerial {
	out := make([]Aerial, len(l))
	copy(out, l)
	out[i] = change(l[i])
	return out
}

// limited returns an array if each part of its feeds is in its range, or ErrLarge.
func limited(l []Aerial) ([]Aerial, api.Errno) {
	if CheckArray(l) != api.OK {
		return nil, api.ErrLarge
	}
	return l, api.OK
}

// checkMatrix returns the first error of a matrix for as many aerials, or OK.
func checkMatrix(matrix [][]complex128, aerials int) api.Errno {
	shapes := common.Mapped(matrix, func(row []complex128) api.Errno {
		return common.Failed(len(row) != aerials, api.ErrShape)
	})
	e := common.First(common.Failed(len(matrix) != aerials, api.ErrShape), common.First(shapes...))
	if e != api.OK {
		return e
	}
	return common.First(common.Mapped(matrix, func(row []complex128) api.Errno {
		return checkNumbers(row, MaxCouple)
	})...)
}

// checkNumbers returns the error of the first complex number with one, with a limit, or OK.
func checkNumbers(l []complex128, most float64) api.Errno {
	return common.First(common.Mapped(l, func(x complex128) api.Errno { return checkNumber(x, most) })...)
}

// Coupled returns an array that is coupled by a matrix.
func Coupled(l []Aerial, matrix [][]complex128) ([]Aerial, api.Errno) {
	if e := common.First(CheckArray(l), checkMatrix(matrix, len(l))); e != api.OK {
		return nil, e
	}
	out := make([]Aerial, len(l))
	for i := range len(l) {
		carrier, side := summed(l, matrix[i])
		out[i] = Aerial{l[i].At, l[i].Carrier + thousandth(carrier), l[i].Side + thousandth(side)}
	}
	return limited(out)
}

// thousandth returns a number, whose parts are integers, divided by Thousand, with both parts rounded.
func thousandth(x complex128) complex128 {
	g := common.Gauss(x)
	return common.Complex(api.Gauss{Re: common.Nearest(g.Re, Thousand), Im: common.Nearest(g.Im, Thousand)})
}

// Failed returns an array of which an aerial has failed.
func Failed(l []Aerial, i int) ([]Aerial, api.Errno) {
	if e := common.First(CheckArray(l), common.CheckIndex(i, len(l))); e != api.OK {
		return nil, e
	}
	return changed(l, i, func(a Aerial) Aerial { return Aerial{At: a.At} }), api.OK
}

// Detuned returns an array of which an aerial is detuned by quarter turns.
func Detuned(l []Aerial, i, turns int) ([]Aerial, api.Errno) {
	if e := common.First(CheckArray(l), common.CheckIndex(i, len(l)), common.CheckTurns(turns)); e != api.OK {
		return nil, e
	}
	return changed(l, i, func(a Aerial) Aerial {
		return Aerial{a.At, turned(a.Carrier, turns), turned(a.Side, turns)}
	}), api.OK
}

// mirrored returns an aerial at the opposite distance.
func (a Aerial) mirrored() Aerial {
	a.At = -a.At
	return a
}

// Mirrored returns an array that is mirrored.
func Mirrored(l []Aerial) ([]Aerial, api.Errno) {
	if e := CheckArray(l); e != api.OK {
		return nil, e
	}
	return common.Mapped(l, Aerial.mirrored), api.OK
}

// Synthesized returns the array with the fields at the directions 1, i, -1 and -i.
func Synthesized(carrier, side [4]complex128) ([]Aerial, api.Errno) {
	if e := common.First(checkNumbers(carrier[:], MaxField), checkNumbers(side[:], MaxField)); e != api.OK {
		return nil, e
	}
	carriers, sides := feedsFor(carrier), feedsFor(side)
	if fieldsOf(carriers) != carrier || fieldsOf(sides) != side {
		return nil, api.ErrForm
	}
	l := make([]Aerial, 4)
	for i := range 4 {
		l[i] = Aerial{i, carriers[i], sides[i]}
	}
	return limited(l)
}

// fieldsOf returns the fields, at the directions 1, i, -1 and -i, of feeds at the distances from 0 on.
func fieldsOf(feeds [4]complex128) [4]complex128 {
	return transformed(feeds, 1)
}

// feedsFor returns the feeds with these fields, or feeds with other ones if the parts would not be integers.
func feedsFor(fields [4]complex128) [4]complex128 {
	feeds := transformed(fields, -1)
	for i, x := range feeds {
		feeds[i] = complex(math.Trunc(real(x)/4), math.Trunc(imag(x)/4))
	}
	return feeds
}

// transformed returns for each k the sum of four numbers, of which the one at n is turned by k times n times as many quarter turns.
func transformed(l [4]complex128, turns int) [4]complex128 {
	var out [4]complex128
	for k := range 4 {
		for n, x := range l {
			out[k] += turned(x, turns*k*n)
		}
	}
	return out
}

// Phasing returns the phasing of an array for a direction, and its power.
func Phasing(l []Aerial, d Direction) ([]int, int, api.Errno) {
	e := common.First(CheckArray(l), CheckDirection(d), common.Failed(len(l) > MaxPhase, api.ErrLimit))
	if e != api.OK {
		return nil, 0, e
	}
	fields := common.Mapped(l, func(a Aerial) complex128 { return a.Carrier * d.phase(a.At) })
	var best []int
	most := -1
	for number := range 1 << (2 * len(l)) {
		phasing := digits(number, len(l))
		var field complex128
		for i, x := range fields {
			field += turned(x, phasing[i])
		}
		if p := power(field); p > most {
			best, most = phasing, p
		}
	}
	return best, most, api.OK
}

// digits returns the last n digits of a number, with the base 4.
func digits(number, n int) []int {
	l := make([]int, n)
	for i := range n {
		l[n-1-i] = number >> (2 * i) & 3
	}
	return l
}
