package deck

import (
	"cmp"
	"iter"
	"slices"

	"prow/reckon"
)

// longest chooses the longest list; of several ones the first one.
func longest() reckon.Choice[[]int] {
	return reckon.Choice[[]int]{Better: func(a, b []int) bool { return cmp.Or(len(b)-len(a), slices.Compare(a, b)) < 0 }}
}

// fewest chooses the list with the fewest crossings; of several ones the first one.
func fewest() reckon.Choice[[]int] {
	return reckon.Choice[[]int]{Better: func(a, b []int) bool { return cmp.Or(crossings(a)-crossings(b), slices.Compare(a, b)) < 0 }}
}

// crossings returns how many crossings there are, if a list has for each load the number of its own one.
func crossings(list []int) int { return reckon.Greatest(-1, list...) + 1 }

// shares produces all lists that have for each of n loads the number of its crossing.
// Crossings are numbered as their first loads come: the same crossings with other numbers make a list that comes later.
func shares(n int) iter.Seq[[]int] {
	return func(yield func([]int) bool) {
		list := make([]int, 0, n)
		var share func() bool
		share = func() bool {
			if len(list) == n {
				return yield(slices.Clone(list)[:n:n])
			}
			for crossing := range crossings(list) + 1 {
				list = append(list, crossing)
				if !share() {
					return false
				}
				list = list[:len(list)-1]
			}
			return true
		}
		share()
	}
}

// those returns all loads of a crossing.
func those(list []int, crossing int) []int {
	var loads []int
	for load, its := range list {
		if its == crossing {
			loads = append(loads, load)
		}
	}
	return loads
}
