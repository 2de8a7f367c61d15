package common

import (
	"strconv"
	"strings"

	"glideslope/api"
)

const maxDigits = 9

// Line returns words as a line.
func Line(words ...string) string { return strings.Join(words, " ") + "\n" }

// NumberLine returns a word and integers as a line.
func NumberLine(word string, l ...int) string {
	return Line(append([]string{word}, Mapped(l, strconv.Itoa)...)...)
}

// ReadLines reads each line of a string, and returns how many there are. If the string is too long, or a line is wrong, it returns the index and the error.
func ReadLines(s string, read func(at int, w *Words) bool) (int, api.Errno) {
	if len(s) > api.MaxText {
		return 0, api.ErrLong
	}
	lines := linesOf(s)
	for i, line := range lines {
		text, ended := strings.CutSuffix(line, "\n")
		w := WordsOf(text)
		if !ended || !read(i, &w) || len(w.left) > 0 {
			return i, api.ErrSyntax
		}
	}
	return len(lines), api.OK
}

// ParseEach returns the elements of a string, one of each line. If the string is too long, a line is wrong, or the elements have an error, it returns the index and the error.
func ParseEach[T any](s string, read func(w *Words) (T, bool), check func(l []T) api.Errno) ([]T, int, api.Errno) {
	var l []T
	lines, e := ReadLines(s, func(_ int, w *Words) bool {
		element, is := read(w)
		l = append(l, element)
		return is
	})
	if e := First(e, check(l)); e != api.OK {
		return nil, lines, e
	}
	return l, 0, api.OK
}

// ParseLines returns the elements of a string, each of whose lines is a word and n integers, with the errors of ParseEach.
func ParseLines[T any](s, word string, n int, element func(l []int) T, check func(l []T) api.Errno) ([]T, int, api.Errno) {
	return ParseEach(s, func(w *Words) (T, bool) {
		take := w.Next
		first := take()
		integers, are := Integers(n, take)
		return element(integers), are && first == word
	}, check)
}

// linesOf returns the lines of a string with their line feeds.
func linesOf(s string) []string {
	lines := strings.SplitAfter(s, "\n")
	if last := len(lines) - 1; lines[last] == "" {
		return lines[:last]
	}
	return lines
}

// Words is the words of a line that have not been taken yet.
type Words struct {
	left []string
}

// WordsOf returns the words of a line, between which there is one space each.
func WordsOf(line string) Words { return Words{strings.Split(line, " ")} }

// Next takes the next word, or the empty string, which is no word of any line, if there is none.
func (w *Words) Next() string {
	if len(w.left) == 0 {
		return ""
	}
	word := w.left[0]
	w.left = w.left[1:]
	return word
}

// Left returns how many words have not been taken yet.
func (w *Words) Left() int { return len(w.left) }

// Integers takes n words, and returns their integers, and whether all of them are integers.
func Integers(n int, take func() string) ([]int, bool) { return taken(n, take, Integer) }

// Counts takes n words, and returns their integers, and whether all of them are integers without a minus sign.
func Counts(n int, take func() string) ([]int, bool) { return taken(n, take, Count) }

// taken takes n words, and returns what is read of them, and whether all of them can be read.
func taken(n int, take func() string, read func(word string) (int, bool)) ([]int, bool) {
	l, all := make([]int, n), true
	for i := range n {
		x, is := read(take())
		l[i], all = x, all && is
	}
	return l, all
}

// Integer returns the integer of a word, and whether it is one: at most 9 digits without leading zeros, with or without a minus sign in front, but not -0.
func Integer(word string) (int, bool) {
	digits, isNegative := strings.CutPrefix(word, "-")
	n, is := Count(digits)
	if !isNegative {
		return n, is
	}
	return -n, is && n > 0
}

// Count returns the integer of a word, and whether it is one: at most 9 digits without leading zeros.
func Count(word string) (int, bool) {
	if word == "" || len(word) > maxDigits || word[0] == '0' && word != "0" {
		return 0, false
	}
	n := 0
	for _, digit := range word {
		if digit < '0' || digit > '9' {
			return 0, false
		}
		n = 10*n + int(digit-'0')
	}
	return n, true
}
