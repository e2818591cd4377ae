package deck

import (
	"prow/api"
	"prow/reckon"
)

func valid(b api.DeckBook) bool { return sized(b) && allLoads(b) }

func sized(b api.DeckBook) bool {
	return reckon.Hold([]reckon.Bound{
		{Number: len(b.Loads), Low: 1, High: api.DeckLoads},
		{Number: b.Rule, Low: 0, High: api.DeckRule},
		{Number: b.Most, Low: 1, High: api.DeckMost},
	})
}

func allLoads(b api.DeckBook) bool {
	for _, x := range b.Loads {
		if !reckon.IsKnown(x.Weight, api.Span{Low: 1, High: api.DeckHeavy}, api.DeckWide) || !areLanes(x.Lanes) {
			return false
		}
	}
	return true
}

// areLanes reports whether a number is a set of lanes, and of at least one.
func areLanes(set int) bool {
	return 0 < set && set <= 1<<api.DeckPort|1<<api.DeckMiddle|1<<api.DeckStar
}

func areLoads(b api.DeckBook, loads []int) bool {
	return reckon.Increase(loads, api.Span{Low: 0, High: len(b.Loads) - 1})
}
