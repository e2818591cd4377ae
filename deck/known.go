package deck

import (
	"slices"

	"prow/api"
	"prow/reckon"
)

// list returns how far the deck lists, in all truths.
func (l ledger) list(s stand) api.Span {
	list := reckon.Just(0)
	if s == (stand{}) {
		return list
	}
	for p, pull := range l.pulls {
		if s.place(p.Load) == p {
			list = api.Span{Low: list.Low + pull.Low, High: list.High + pull.High}
		}
	}
	return list
}

// even returns all lists with which the deck is level.
func (l ledger) even() api.Span { return api.Span{Low: -l.Rule, High: l.Rule} }

// isLevel reports whether the deck is level in each truth.
func (l ledger) isLevel(s stand) bool { return reckon.Inside(l.list(s), l.even()) }

// level returns 2 if the deck is level in each truth, 1 if in some, 0 if in none.
func (l ledger) level(s stand) int {
	switch {
	case l.isLevel(s):
		return 2
	case !reckon.IsEmpty(reckon.Meet(l.list(s), l.even())):
		return 1
	}
	return 0
}

// carries reports whether loads are not too heavy together, in each truth.
func (l ledger) carries(loads []int) bool {
	sum := 0
	for _, load := range loads {
		sum += l.Loads[load].Weight.High
	}
	return sum <= l.Most
}

func (l ledger) together(loads []int) bool {
	for range l.stowages(loads) {
		return true
	}
	return false
}

// crossing reports for each load whether it can cross, with others or alone.
func (l ledger) crossing() [api.DeckLoads]bool {
	var crosses [api.DeckLoads]bool
	for list := range reckon.Lists(len(l.Loads)) {
		if !l.together(list) {
			continue
		}
		for _, load := range list {
			crosses[load] = true
		}
	}
	return crosses
}

// most returns the most loads that can cross together: there are some, since none at all can.
func (l ledger) most() []int {
	list, _ := longest().Of(reckon.Lists(len(l.Loads)), l.together)
	return list
}

// allCross reports whether the loads of each crossing can cross together.
func (l ledger) allCross(list []int) bool {
	for crossing := range crossings(list) {
		if !l.together(those(list, crossing)) {
			return false
		}
	}
	return true
}

// settled is told of a load that need not be weighed.
const settled = -1

// onceWeighed returns for each load how many can cross together, at the worst, once its weight is known.
func (l ledger) onceWeighed() []int {
	var counts []int
	for load, x := range l.Loads {
		count := settled
		if x.Weight.Low < x.Weight.High {
			count = l.atWorst(load)
		}
		counts = append(counts, count)
	}
	return counts
}

func (l ledger) atWorst(load int) int {
	least := len(l.Loads)
	for weight := range reckon.Numbers(l.Loads[load].Weight) {
		least = reckon.Least(least, len(l.weighed(load, weight).most()))
	}
	return least
}

// weighed returns the ledger of the book in which the weight of a load is known.
func (l ledger) weighed(load, weight int) ledger {
	b := l.DeckBook
	b.Loads = slices.Clone(b.Loads)
	b.Loads[load].Weight = reckon.Just(weight)
	return lay(b)
}
