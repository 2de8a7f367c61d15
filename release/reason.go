package release

import "glideslope/common"

// reason is a word for what is missing, and when it is.
type reason[T any] struct {
	word      string
	isMissing func(x T) bool
}

// missing returns the words of the reasons for which something is missing.
func missing[T any](reasons []reason[T], x T) []string {
	applying := common.Where(reasons, func(r reason[T]) bool { return r.isMissing(x) })
	return common.Mapped(applying, func(r reason[T]) string { return r.word })
}
