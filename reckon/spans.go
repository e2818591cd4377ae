package reckon

import (
	"iter"

	"prow/api"
)

// Just returns the span of one number.
func Just(n int) api.Span { return api.Span{Low: n, High: n} }

// Nothing returns a span of no numbers.
func Nothing() api.Span { return api.Span{Low: 1, High: 0} }

// IsEmpty reports whether a span has no numbers.
func IsEmpty(s api.Span) bool { return s.Low > s.High }

// Meet returns the numbers that are in both spans.
func Meet(a, b api.Span) api.Span {
	return api.Span{Low: max(a.Low, b.Low), High: min(a.High, b.High)}
}

// Join returns the least span that has the numbers of both.
func Join(a, b api.Span) api.Span {
	if IsEmpty(a) {
		return b
	}
	if IsEmpty(b) {
		return a
	}
	return api.Span{Low: min(a.Low, b.Low), High: max(a.High, b.High)}
}

// Inside reports whether both ends of a span lie in another one.
func Inside(s, all api.Span) bool { return all.Low <= s.Low && s.High <= all.High }

// IsKnown reports whether a span has numbers, all of them in another one, and two ends no more than wide apart.
// What lies in a span of limits is small, so that its ends can be held against each other.
func IsKnown(s, limits api.Span, wide int) bool {
	return !IsEmpty(s) && Inside(s, limits) && s.High-s.Low <= wide
}

// Numbers produces all numbers of a span, increasing.
func Numbers(s api.Span) iter.Seq[int] {
	return func(yield func(int) bool) {
		for more := range s.High - s.Low + 1 {
			if !yield(s.Low + more) {
				return
			}
		}
	}
}

// End is an end of what is known of a number.
type End struct{ Of func(s api.Span) int }

// Low returns the lower end.
func Low() End { return End{Of: func(s api.Span) int { return s.Low }} }

// High returns the upper end.
func High() End { return End{Of: func(s api.Span) int { return s.High }} }
