package record

import (
	"strconv"

	"glideslope/api"
	"glideslope/common"
)

// The spans of an identification, in dots.
const (
	dotSpan    = 1
	dashSpan   = 3
	letterGap  = 3
	wordGap    = 7
	leastDash  = 2
	leastBreak = 2 // between two letters
	leastRest  = 5 // between two words
)

const capitals = 26

// code returns the code of the letter with a number: 0 for a dot, 1 for a dash.
func code(number int) string {
	return strconv.FormatInt(int64(number+2), 2)[1:]
}

// letters returns the letter of each code.
func letters() map[string]string {
	m := map[string]string{}
	for n := range capitals {
		m[code(n)] = string(rune('A' + n))
	}
	return m
}

// checkWord returns the first error of a word, or OK.
func checkWord(s string) api.Errno {
	e := common.First(common.Failed(s == "", api.ErrEmpty), common.Failed(len(s) > MaxWord, api.ErrLong))
	if e != api.OK {
		return e
	}
	for i := range len(s) {
		if !isCapital(s[i]) {
			return api.ErrForm
		}
	}
	return api.OK
}

// Keyed returns the samples of an identification.
func Keyed(word string, dot int) ([]float32, api.Errno) {
	if e := common.First(checkWord(word), common.Between(dot, 1, MaxDot)); e != api.OK {
		return nil, e
	}
	var l []float32
	for i, letter := range word {
		if i > 0 {
			l = held(l, 0, letterGap*dot)
		}
		l = letterKeyed(l, code(int(letter-'A')), dot)
	}
	return held(l, 0, wordGap*dot), api.OK
}

// letterKeyed returns samples with those of a letter at their end.
func letterKeyed(l []float32, code string, dot int) []float32 {
	for i, digit := range code {
		if i > 0 {
			l = held(l, 0, dotSpan*dot)
		}
		span := dotSpan
		if digit == '1' {
			span = dashSpan
		}
		l = held(l, 1, span*dot)
	}
	return l
}

// held returns samples with n times the sample x at their end.
func held(l []float32, x float32, n int) []float32 {
	for range n {
		l = append(l, x)
	}
	return l
}

// hearing is what has been heard: whole words, the letters of one that has begun, and the code of a letter that has begun.
type hearing struct {
	letters map[string]string
	words   []string
	word    string
	code    string
}

// Heard returns the words that are heard in samples.
func Heard(l []float32, dot int) ([]string, api.Errno) {
	if e := common.First(CheckSamples(l), common.Between(dot, 1, MaxDot)); e != api.OK {
		return nil, e
	}
	h := hearing{letters: letters()}
	for from := 0; from < len(l); {
		to := spanEnd(l, from)
		if isOn(l[from]) {
			h.on(to-from, dot)
		} else {
			h.off(to-from, dot)
		}
		from = to
	}
	h.endWord()
	if len(h.words) > MaxWords {
		return nil, api.ErrMany
	}
	return h.words, api.OK
}

func isOn(x float32) bool { return x >= 0.5 }

// spanEnd returns the index after the longest span from an index on that is all on, or all off.
func spanEnd(l []float32, from int) int {
	to := from + 1
	for to < len(l) && isOn(l[to]) == isOn(l[from]) {
		to++
	}
	return to
}

// on hears a dot or a dash.
func (h *hearing) on(n, dot int) {
	if n < leastDash*dot {
		h.code += "0"
	} else {
		h.code += "1"
	}
}

// off hears what is between two dots or dashes.
func (h *hearing) off(n, dot int) {
	switch {
	case n >= leastRest*dot:
		h.endWord()
	case n >= leastBreak*dot:
		h.endLetter()
	}
}

// endLetter ends the letter that has begun, if there is one.
func (h *hearing) endLetter() {
	if h.code == "" {
		return
	}
	letter, is := h.letters[h.code]
	if !is {
		letter = "?"
	}
	h.word += letter
	h.code = ""
}

// endWord ends the word that has begun, if there is one.
func (h *hearing) endWord() {
	h.endLetter()
	if h.word == "" {
		return
	}
	h.words = append(h.words, h.word)
	h.word = ""
}
