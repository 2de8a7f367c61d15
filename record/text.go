package record

import (
	"strconv"
	"strings"

	"glideslope/api"
	"glideslope/common"
)

const (
	headWord   = "recording"
	markWord   = "mark"
	sampleWord = "sample"
)

// Print returns the string of a recording.
func Print(r Recording) (string, api.Errno) {
	if e := CheckRecording(r); e != api.OK {
		return "", e
	}
	var s strings.Builder
	s.WriteString(common.NumberLine(headWord, r.Start, r.Step))
	for _, m := range r.Marks {
		s.WriteString(common.Line(markWord, strconv.Itoa(m.Index), m.Name))
	}
	for _, x := range r.Samples {
		s.WriteString(common.NumberLine(sampleWord, unitOf(x)))
	}
	if s.Len() > api.MaxText {
		return "", api.ErrLong
	}
	return s.String(), api.OK
}

// Parse returns the recording of a string, and the index of the first line that is wrong.
func Parse(s string) (Recording, int, api.Errno) {
	var r Recording
	n, e := common.ReadLines(s, func(at int, w *common.Words) bool { return readLine(&r, at, w) })
	if e != api.OK {
		return Recording{}, n, e
	}
	if n == 0 {
		return Recording{}, 0, api.ErrSyntax
	}
	if e := CheckRecording(r); e != api.OK {
		return Recording{}, n, e
	}
	return r, 0, api.OK
}

// kind is a kind of lines: its first word, whether it may be the line at an index, after what was read before, and what reads its other words.
type kind struct {
	word string
	fits func(r *Recording, at int) bool
	read func(r *Recording, take func() string) bool
}

func kinds() []kind {
	return []kind{
		{headWord, func(r *Recording, at int) bool { return at == 0 }, readHead},
		{markWord, func(r *Recording, at int) bool { return at > 0 && len(r.Samples) == 0 }, readMark},
		{sampleWord, func(r *Recording, at int) bool { return at > 0 }, readSample},
	}
}

// readLine adds the line at an index to a recording, and reports whether it is one.
func readLine(r *Recording, at int, w *common.Words) bool {
	take := w.Next
	word := take()
	for _, k := range kinds() {
		if k.word == word && k.fits(r, at) {
			return k.read(r, take)
		}
	}
	return false
}

func readHead(r *Recording, take func() string) bool {
	start, isStart := common.Count(take())
	step, isStep := common.Count(take())
	r.Start, r.Step = start, step
	return isStart && isStep
}

func readMark(r *Recording, take func() string) bool {
	index, is := common.Count(take())
	name := take()
	r.Marks = append(r.Marks, Marker{index, name})
	return is && name != ""
}

// readSample reads an integer of a sample. One that is too large to be exact is out of range all the same.
func readSample(r *Recording, take func() string) bool {
	n, is := common.Integer(take())
	r.Samples = append(r.Samples, sampleOf(n))
	return is
}
