package chain

import (
	"cmp"
	"iter"
)

func least[N cmp.Ordered](first N, more ...N) N {
	for _, n := range more {
		first = min(first, n)
	}
	return first
}

// lists produces all strictly increasing lists of so many numbers below n, in their order.
func lists(n, size int) iter.Seq[[]int] {
	return func(yield func([]int) bool) {
		list := make([]int, 0, size)
		var add func(from int) bool
		add = func(from int) bool {
			if len(list) == size {
				return yield(list[:size:size])
			}
			for more := range n - from {
				list = append(list, from+more)
				if !add(from + more + 1) {
					return false
				}
				list = list[:len(list)-1]
			}
			return true
		}
		add(0)
	}
}
