package record_test

import (
	"math"
	"slices"
	"strings"
	"testing"

	"glideslope/api"
	"glideslope/record"
)

// The tests of this file are those of P1.4 for Keyed and Heard.

// codes is the codes of the letters from A to Z.
const codes = ". - .. .- -. -- ... ..- .-. .-- -.. -.- --. --- .... ...- ..-. ..-- .-.. .-.- .--. .--- -... -..- -.-. -.--"

// keyedAs returns the samples of a picture: + for a dot's samples that are on, _ for one's that are off.
func keyedAs(picture string, dot int) []float32 {
	var l []float32
	for _, c := range picture {
		for range dot {
			if c == '+' {
				l = append(l, 1)
			} else {
				l = append(l, 0)
			}
		}
	}
	return l
}

func TestKeyedLetters(t *testing.T) {
	for n, code := range strings.Fields(codes) {
		letter := string(rune('A' + n))
		picture := ""
		for _, c := range code {
			picture += map[rune]string{'.': "+_", '-': "+++_"}[c]
		}
		picture += "______" // with the one after the last dot or dash
		for _, dot := range []int{1, 2, 16} {
			l, e := record.Keyed(letter, dot)
			same(t, "Keyed "+letter, all(dot, l, e), all(dot, keyedAs(picture, dot), api.OK))
			words, e := record.Heard(l, dot)
			same(t, "Heard "+letter, all(dot, words, e), all(dot, []string{letter}, api.OK))
		}
	}
}

func TestKeyedWords(t *testing.T) {
	for _, x := range []struct {
		word    string
		dot     int
		picture string
	}{
		{"C", 2, "+_+_______"},
		{"AB", 1, "+___+++_______"},
		{"AAAA", 3, "+___+___+___+_______"},
		{"ZD", 1, "+++_+_+++_+++___+_+++_______"},
	} {
		l, e := record.Keyed(x.word, x.dot)
		same(t, "Keyed "+x.word, all(l, e), all(keyedAs(x.picture, x.dot), api.OK))
	}
}

func TestKeyedErrors(t *testing.T) {
	for _, x := range []struct {
		word string
		dot  int
		e    api.Errno
	}{
		{"", 1, api.ErrEmpty}, {"", 0, api.ErrEmpty}, {"ABCDE", 1, api.ErrLong}, {"abcde", 0, api.ErrLong}, {"A\u00e9\u00e9", 1, api.ErrLong},
		{"a", 1, api.ErrForm}, {"ABCd", 0, api.ErrForm}, {"A B", 1, api.ErrForm}, {"1", 1, api.ErrForm}, {"@", 1, api.ErrForm}, {"[", 1, api.ErrForm},
		{"?", 1, api.ErrForm}, {"\xff", 1, api.ErrForm}, {"A\x00", 1, api.ErrForm}, {"\u00c4", 1, api.ErrForm},
		{"A", 0, api.ErrRange}, {"A", -1, api.ErrRange}, {"A", 17, api.ErrRange}, {"ABCD", math.MaxInt, api.ErrRange}, {"A", math.MinInt, api.ErrRange},
	} {
		l, e := record.Keyed(x.word, x.dot)
		same(t, "Keyed with errors", all(x.word, x.dot, l, e), all(x.word, x.dot, []float32{}, x.e))
	}
}

func TestHeard(t *testing.T) {
	for _, x := range []struct {
		picture string
		words   []string
	}{
		{"", nil}, {"_", nil}, {"____________", nil},
		{"+_+++___+", []string{"DA"}},
		{"+", []string{"A"}}, {"++", []string{"B"}}, {"+++", []string{"B"}}, {"++++++++++", []string{"B"}},
		{"_+", []string{"A"}}, {"_________+", []string{"A"}}, {"+_", []string{"A"}}, {"+_________", []string{"A"}},
		{"+_+", []string{"C"}}, {"+__+", []string{"AA"}}, {"+___+", []string{"AA"}}, {"+____+", []string{"AA"}},
		{"+_____+", []string{"A", "A"}}, {"+________________+", []string{"A", "A"}},
		{"+_+_+_+_+", []string{"?"}},     // five dots
		{"+_+_+_+", []string{"O"}},       // four dots
		{"++_++_+_+", []string{"?"}},     // 11100 is 28, and less 2 it is 26
		{"++_+_++_++", []string{"Z"}},    // 11011 is 27, and less 2 it is 25
		{"++_++_++_++", []string{"?"}},   // 11111
		{"+_+_+_+_+__+", []string{"?A"}}, // a letter that is none, and one
		{"+_____+_+_+_+_+", []string{"A", "?"}},
		{"++__+__++_++_____+_+_____+", []string{"BAF", "C", "A"}},
		{"+__+__+__+__+__+", []string{"AAAAAA"}}, // a word that is heard may be longer than one that is keyed
	} {
		words, e := record.Heard(keyedAs(x.picture, 1), 1)
		same(t, "Heard "+x.picture, all(words, e), all(x.words, api.OK))
	}
}

// The bounds of a dot, a letter and a word, by samples for a dot.
func TestHeardBounds(t *testing.T) {
	on := func(n int) []float32 { return slices.Repeat([]float32{1}, n) }
	off := func(n int) []float32 { return make([]float32, n) }
	for _, dot := range []int{1, 2, 5, 16} {
		for i, x := range []struct {
			l     []float32
			words []string
		}{
			{on(2*dot - 1), []string{"A"}},
			{on(2 * dot), []string{"B"}},
			{slices.Concat(on(1), off(2*dot-1), on(1)), []string{"C"}},
			{slices.Concat(on(1), off(2*dot), on(1)), []string{"AA"}},
			{slices.Concat(on(1), off(5*dot-1), on(1)), []string{"AA"}},
			{slices.Concat(on(1), off(5*dot), on(1)), []string{"A", "A"}},
		} {
			words, e := record.Heard(x.l, dot)
			same(t, "Heard by a bound", all(dot, i, words, e), all(dot, i, x.words, api.OK))
		}
	}
}

func TestHeardThreshold(t *testing.T) {
	for _, x := range []struct {
		x     float32
		words []string
	}{
		{0.5, []string{"A"}}, {0.4375, nil}, {0.5625, []string{"A"}}, {1024, []string{"A"}}, {-1024, nil}, {-0.5, nil}, {0, nil},
	} {
		words, e := record.Heard([]float32{x.x}, 1)
		same(t, "Heard in one sample", all(x.x, words, e), all(x.x, x.words, api.OK))
	}
}

func TestHeardMany(t *testing.T) {
	many := slices.Repeat([]float32{1, 0, 0, 0, 0, 0}, 64)
	words, e := record.Heard(many, 1)
	same(t, "Heard 64 words", all(words, e), all(slices.Repeat([]string{"A"}, 64), api.OK))
	words, e = record.Heard(append(many, 1), 1)
	same(t, "Heard 65 words", all(words, e), all([]string{}, api.ErrMany))
	long := slices.Repeat([]float32{1, 0}, 2048)
	words, e = record.Heard(long, 1)
	same(t, "Heard 2048 dots", all(words, e), all([]string{"?"}, api.OK))
}

func TestHeardErrors(t *testing.T) {
	for i, x := range []struct {
		l   []float32
		dot int
		e   api.Errno
	}{
		{make([]float32, 4097), 0, api.ErrMany}, {[]float32{nan}, 0, api.ErrForm}, {[]float32{0.01, nan}, 1, api.ErrRange},
		{nil, 0, api.ErrRange}, {nil, 17, api.ErrRange}, {nil, -1, api.ErrRange}, {nil, math.MinInt, api.ErrRange}, {nil, math.MaxInt, api.ErrRange},
		{nil, 1, api.OK}, {nil, 16, api.OK},
	} {
		words, e := record.Heard(x.l, x.dot)
		same(t, "Heard with errors", all(i, words, e), all(i, []string{}, x.e))
	}
}
