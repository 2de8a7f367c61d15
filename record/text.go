package record

import (
	"strconv"
	"strings"

	"glideslope/api"
)

const (
	headWord   = "recording"
	markWord   = "mark"
	sampleWord = "sample"
)

// Print returns the string of a recording.
func Print(r Recording) (string, api.Errno) {
	if e := CheckRecording(r); e != api.OK {
		return "", e
	}
	var s strings.Builder
	s.WriteString(lineOf(headWord, strconv.Itoa(r.Start), strconv.Itoa(r.Step)))
	for _, m := range r.Marks {
		s.WriteString(lineOf(markWord, strconv.Itoa(m.Index), m.Name))
	}
	for _, x := range r.Samples {
		s.WriteString(lineOf(sampleWord, strconv.Itoa(unitOf(x))))
	}
	if s.Len() > api.MaxText {
		return "", api.ErrLong
	}
	return s.String(), api.OK
}

func lineOf(words ...string) string { return strings.Join(words, " ") + "\n" }

// Parse returns the recording of a string, and the index of the first line that is wrong.
func Parse(s string) (Recording, int, api.Errno) {
	if len(s) > api.MaxText {
		return Recording{}, 0, api.ErrLong
	}
	lines := linesOf(s)
	if len(lines) == 0 {
		return Recording{}, 0, api.ErrSyntax
	}
	var r Recording
	for i, line := range lines {
		if !readLine(&r, i, line) {
			return Recording{}, i, api.ErrSyntax
		}
	}
	if e := CheckRecording(r); e != api.OK {
		return Recording{}, len(lines), e
	}
	return r, 0, api.OK
}

// linesOf returns the lines of a string with their line feeds.
func linesOf(s string) []string {
	lines := strings.SplitAfter(s, "\n")
	if last := len(lines) - 1; lines[last] == "" {
		return lines[:last]
	}
	return lines
}

// wordList is the words of a line that have not been taken yet.
type wordList struct {
	words []string
}

// next takes the next word, or the empty string, which is no word of any line, if there is none.
func (l *wordList) next() string {
	if len(l.words) == 0 {
		return ""
	}
	word := l.words[0]
	l.words = l.words[1:]
	return word
}

// kind is a kind of lines: its first word, whether it may be the line at an index, after what was read before, and what reads its other words.
type kind struct {
	word string
	fits func(r *Recording, at int) bool
	read func(r *Recording, take func() string) bool
}

func kinds() []kind {
	return []kind{
		{headWord, func(r *Recording, at int) bool { return at == 0 }, readHead},
		{markWord, func(r *Recording, at int) bool { return at > 0 && len(r.Samples) == 0 }, readMark},
		{sampleWord, func(r *Recording, at int) bool { return at > 0 }, readSample},
	}
}

// readLine adds the line at an index to a recording, and reports whether it is one.
func readLine(r *Recording, at int, line string) bool {
	text, ended := strings.CutSuffix(line, "\n")
	if !ended {
		return false
	}
	l := wordList{strings.Split(text, " ")}
	take := l.next
	word := take()
	for _, k := range kinds() {
		if k.word == word && k.fits(r, at) {
			return k.read(r, take) && len(l.words) == 0
		}
	}
	return false
}

func readHead(r *Recording, take func() string) bool {
	start, isStart := integer(take(), 0)
	step, isStep := integer(take(), 0)
	r.Start, r.Step = start, step
	return isStart && isStep
}

func readMark(r *Recording, take func() string) bool {
	index, is := integer(take(), 0)
	name := take()
	r.Marks = append(r.Marks, Marker{index, name})
	return is && name != ""
}

// readSample reads an integer of a sample. One that is too large to be exact is out of range all the same.
func readSample(r *Recording, take func() string) bool {
	n, is := integer(take(), -api.MaxNumber)
	r.Samples = append(r.Samples, sampleOf(n))
	return is
}

// integer returns the integer of a word, and whether it is one from low to MaxNumber (9 digits), written as Print writes it.
func integer(word string, low int) (int, bool) {
	n, e := strconv.Atoi(word)
	return n, e == nil && strconv.Itoa(n) == word && n >= low && n <= api.MaxNumber
}
