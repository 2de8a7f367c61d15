package office

import (
	"glideslope/api"
	"glideslope/common"
	"glideslope/record"
)

// checkNew returns ErrTwice for the index of what should be new, or OK.
func checkNew(at int) api.Errno { return common.Failed(at >= 0, api.ErrTwice) }

// checkKnown returns ErrUnknown for the index of what is not there, or OK.
func checkKnown(at int) api.Errno { return common.Failed(at < 0, api.ErrUnknown) }

// checkRoom returns ErrMany if what has an index is new, and there are as many elements as permitted, or OK.
func checkRoom(at, elements, most int) api.Errno {
	return common.Failed(at < 0 && elements >= most, api.ErrMany)
}

// checkRight returns ErrRight if the rights of an event's technician are not valid at its tick, or OK.
func checkRight(r Register, e api.Event) api.Errno {
	return common.Failed(!r.technician(e.Names[1]).isValid(e.Values[0]), api.ErrRight)
}

// checkCount returns the error of a count of spares, or OK.
func checkCount(count int) api.Errno { return common.Failed(count == 0, api.ErrRange) }

// checkTick returns the error of a tick, or OK.
func checkTick(tick int) api.Errno { return common.Between(tick, 0, api.MaxNumber) }

// checkTicks returns the error of a span of ticks, which may be empty, or OK.
func checkTicks(s api.Span) api.Errno {
	return common.Failed(s.From < 0 || s.From > s.To || s.To > api.MaxNumber, api.ErrSpan)
}

// checkEvents returns ErrMany if there are as many events as permitted before a further one, or OK.
func checkEvents(l []api.Event) api.Errno {
	return common.Failed(len(l) >= api.MaxEvents, api.ErrMany)
}

// CheckEvent returns the first error of an event, or OK.
func CheckEvent(e api.Event) api.Errno { return checkEvent(kinds(), e) }

// checkEvent returns the first error of an event by the kinds of events, or OK.
func checkEvent(kinds map[string]kind, e api.Event) api.Errno {
	k, isKnown := kinds[e.Kind]
	return common.First(
		common.Between(e.Number, 1, api.MaxEvents),
		common.Failed(!isKnown, api.ErrKind),
		common.Failed([2]int{len(e.Names), len(e.Values)} != k.shape(), api.ErrShape),
		common.Failed(!all(e.Names, record.IsName), api.ErrName),
		common.First(common.Mapped(e.Values, checkTick)...),
		common.Failed(e.Text != "", api.ErrForm))
}

// all reports whether a function holds for all elements of a list.
func all[T any](l []T, holds func(T) bool) bool { return len(common.Where(l, holds)) == len(l) }
