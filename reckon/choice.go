package reckon

import "iter"

// Choice is the best of several things.
type Choice[T any] struct {
	Better func(a, b T) bool // whether a is better than b
}

// Of returns the best of those things that can be; of several as good the first one. It reports whether there is one.
func (c Choice[T]) Of(all iter.Seq[T], can func(x T) bool) (T, bool) {
	var best T
	found := false
	for x := range all {
		if (!found || c.Better(x, best)) && can(x) {
			best, found = x, true
		}
	}
	return best, found
}
