package reckon

import (
	"cmp"
	"iter"
	"slices"

	"prow/api"
)

// Least returns the least of several numbers.
func Least[N cmp.Ordered](first N, more ...N) N {
	for _, n := range more {
		first = min(first, n)
	}
	return first
}

// Greatest returns the greatest of several numbers.
func Greatest[N cmp.Ordered](first N, more ...N) N {
	for _, n := range more {
		first = max(first, n)
	}
	return first
}

// Sum returns the sum of several numbers.
func Sum[N ~int](numbers ...N) N {
	var sum N
	for _, n := range numbers {
		sum += n
	}
	return sum
}

// Fewest returns the fewest numbers below n that are enough; of several such lists (each strictly increasing) the first one. It reports whether there are any.
func Fewest(n int, enough func(list []int) bool) ([]int, bool) {
	for list := range Lists(n) {
		if enough(list) {
			return list, true
		}
	}
	return nil, false
}

// Lists produces all strictly increasing lists of numbers below n: the shorter ones first, of each length in their order.
func Lists(n int) iter.Seq[[]int] {
	return func(yield func([]int) bool) {
		for size := range n + 1 {
			for list := range lists(n, size) {
				if !yield(list) {
					return
				}
			}
		}
	}
}

// lists produces those of one length.
func lists(n, size int) iter.Seq[[]int] {
	return func(yield func([]int) bool) {
		list := make([]int, 0, size)
		var add func(from int) bool
		add = func(from int) bool {
			if len(list) == size {
				return yield(slices.Clone(list)[:size:size])
			}
			for more := range n - from {
				list = append(list, from+more)
				if !add(from + more + 1) {
					return false
				}
				list = list[:len(list)-1]
			}
			return true
		}
		add(0)
	}
}

// Increase reports whether a list is strictly increasing, of numbers of a span alone.
func Increase(list []int, all api.Span) bool {
	for i, n := range list {
		if !Inside(Just(n), all) || i > 0 && n <= list[i-1] {
			return false
		}
	}
	return true
}

// With returns an increasing list with one number more.
func With(list []int, n int) []int {
	end := len(list)
	longer := append(list[:end:end], n) // the third index keeps the argument's memory as it is
	slices.Sort(longer)
	return longer[:len(longer):len(longer)]
}

// Without returns all but those whose numbers a list has.
func Without[T any](all []T, list []int) []T {
	var kept []T
	for i, x := range all {
		if !slices.Contains(list, i) {
			kept = append(kept, x)
		}
	}
	return kept[:len(kept):len(kept)]
}
