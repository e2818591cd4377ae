package deck

import (
	"cmp"
	"iter"
	"slices"

	"prow/reckon"
)

// choice is the best of several lists.
type choice struct {
	better func(a, b []int) bool // whether a is better than b
}

// longest chooses the longest list; of several ones the first one.
func longest() choice {
	return choice{better: func(a, b []int) bool { return cmp.Or(len(b)-len(a), slices.Compare(a, b)) < 0 }}
}

// fewest chooses the list with the fewest crossings; of several ones the first one.
func fewest() choice {
	return choice{better: func(a, b []int) bool { return cmp.Or(crossings(a)-crossings(b), slices.Compare(a, b)) < 0 }}
}

// of returns the best of those lists that can be, and reports whether there is one.
func (c choice) of(lists iter.Seq[[]int], can func(list []int) bool) ([]int, bool) {
	var best []int
	found := false
	for list := range lists {
		if (!found || c.better(list, best)) && can(list) {
			best, found = slices.Clone(list), true
		}
	}
	return best[:len(best):len(best)], found
}

// crossings returns how many crossings there are, if a list has for each load the number of its own one.
func crossings(list []int) int { return reckon.Greatest(-1, list...) + 1 }

// shares produces all lists that have for each of n loads the number of its crossing.
// Crossings are numbered as their first loads come: the same crossings with other numbers make a list that comes later.
func shares(n int) iter.Seq[[]int] {
	return func(yield func([]int) bool) {
		list := make([]int, 0, n)
		var share func() bool
		share = func() bool {
			if len(list) == n {
				return yield(list[:n:n])
			}
			for crossing := range crossings(list) + 1 {
				list = append(list, crossing)
				if !share() {
					return false
				}
				list = list[:len(list)-1]
			}
			return true
		}
		share()
	}
}

// those returns all loads of a crossing.
func those(list []int, crossing int) []int {
	var loads []int
	for load, its := range list {
		if its == crossing {
			loads = append(loads, load)
		}
	}
	return loads
}
