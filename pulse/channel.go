package pulse

import (
	"glideslope/api"
	"glideslope/common"
)

const (
	callFrequency = 1024 // with the number of a channel added
	lastLower     = 63   // the last one of the lower channels
)

// family is the channels of a kind: their spacing, and how far replies of the lower ones are above calls. Those of the others are as far below.
type family struct {
	kind    byte
	spacing int
	shift   int
}

// families has the channels of all kinds.
var families = [2]family{{'X', 12, -63}, {'Y', 36, 63}}

// familyOf returns the channels of a kind, or its error.
func familyOf(kind byte) (family, api.Errno) {
	for _, f := range families {
		if f.kind == kind {
			return f, api.OK
		}
	}
	return family{}, api.ErrKind
}

// channel returns both frequencies and the spacing of the channel with a number.
func (f family) channel(number int) [3]int {
	shift := f.shift
	if number > lastLower {
		shift = -shift
	}
	calls := callFrequency + number
	return [3]int{calls, calls + shift, f.spacing}
}

// Channel returns both frequencies and the spacing of a channel.
func Channel(number int, kind byte) ([3]int, api.Errno) {
	f, e := familyOf(kind)
	if e := common.First(common.Between(number, 1, MaxChannel), e); e != api.OK {
		return [3]int{}, e
	}
	return f.channel(number), api.OK
}

// Tuned returns the channel with a frequency of replies.
func Tuned(frequency int, kind byte) (int, api.Errno) {
	f, e := familyOf(kind)
	if e != api.OK {
		return 0, e
	}
	for i := range MaxChannel {
		number := i + 1
		tuned := [3]int{callFrequency + number, frequency, f.spacing}
		if f.channel(number) == tuned {
			return number, api.OK
		}
	}
	return 0, api.ErrNone
}
