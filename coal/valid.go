package coal

import (
	"prow/api"
	"prow/reckon"
)

func valid(b api.CoalBook) bool {
	return sized(b) && allSpans(b) && allExtra(b) && allDays(b) && allDips(b)
}

func sized(b api.CoalBook) bool {
	return reckon.Hold([]reckon.Bound{
		{Number: len(b.Days), Low: 1, High: api.CoalDays},
		{Number: b.Brings, Low: 0, High: api.CoalHeap},
		{Number: len(b.Dips), Low: 0, High: api.CoalDips},
	})
}

func allSpans(b api.CoalBook) bool {
	for _, s := range b.Eats {
		if !reckon.IsKnown(s, api.Span{Low: 0, High: api.CoalEats}, api.CoalLoose) {
			return false
		}
	}
	return reckon.IsKnown(b.Heap, api.Span{Low: 0, High: api.CoalHeap}, api.CoalWide) &&
		reckon.IsKnown(b.Collier, api.Span{Low: 0, High: len(b.Days)}, api.CoalCollier)
}

func allExtra(b api.CoalBook) bool {
	for _, extra := range b.Extra {
		if !reckon.Inside(reckon.Just(extra), api.Span{Low: 0, High: api.CoalExtra}) {
			return false
		}
	}
	return true
}

func allDays(b api.CoalBook) bool {
	for _, d := range b.Days {
		if !reckon.Hold([]reckon.Bound{
			{Number: d.Crosses, Low: 0, High: api.CoalCrosses},
			{Number: d.Engines, Low: 1, High: reckon.Full(len(b.Eats))},
			{Number: d.Winds, Low: 1, High: reckon.Full(len(b.Extra))},
		}) {
			return false
		}
	}
	return true
}

func allDips(b api.CoalBook) bool {
	for _, d := range b.Dips {
		if !isDip(b, d) {
			return false
		}
	}
	return true
}

// isDip reports whether a measure is valid. A collier brings as much as there can be in a heap, at most, so that together there is twice as much.
func isDip(b api.CoalBook, d api.CoalDip) bool {
	return isDay(b, d.Day) && reckon.Hold([]reckon.Bound{
		{Number: d.Read, Low: 0, High: 2 * api.CoalHeap},
		{Number: d.Error, Low: 0, High: api.CoalError},
	})
}

func isDay(b api.CoalBook, day int) bool { return 0 <= day && day < len(b.Days) }

func isEngine(engine int) bool { return 0 <= engine && engine < len(engines{}) }
