package common

// Reason is a word for a reason, and when it applies.
type Reason[T any] struct {
	Word    string
	Applies func(x T) bool
}

// Applying returns the words of the reasons that apply, in their order.
func Applying[T any](reasons []Reason[T], x T) []string {
	applying := Where(reasons, func(r Reason[T]) bool { return r.Applies(x) })
	return Mapped(applying, func(r Reason[T]) string { return r.Word })
}
