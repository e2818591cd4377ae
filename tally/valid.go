package tally

import (
	"prow/api"
	"prow/reckon"
)

func valid(b api.TallyBook) bool { return sized(b) && allCounts(b) }

func sized(b api.TallyBook) bool {
	return reckon.Hold([]reckon.Bound{
		{Number: b.Trips, Low: 1, High: api.TallyTrips},
		{Number: b.Room, Low: 0, High: api.TallyRoom},
		{Number: len(b.Counts), Low: 0, High: api.TallyCounts},
	})
}

func allCounts(b api.TallyBook) bool {
	for n := range len(b.Counts) {
		if !isCount(b, b.Counts[n]) {
			return false
		}
	}
	return true
}

func isCount(b api.TallyBook, c api.TallyCount) bool {
	over := api.TallyWrong
	if c.Who == api.TallyStile {
		over = 0
	}
	return reckon.Inside(reckon.Just(c.Who), counters()) && areTrips(b, c.From, c.To) && reckon.Hold([]reckon.Bound{
		{Number: c.Told, Low: 0, High: api.TallyTold},
		{Number: c.Unit, Low: 1, High: api.TallyUnit},
		{Number: c.Under, Low: 0, High: api.TallyWrong},
		{Number: c.Over, Low: 0, High: over},
	})
}

// counters returns all who count.
func counters() api.Span { return api.Span{Low: api.TallyDrover, High: api.TallyToll} }

func areTrips(b api.TallyBook, from, to int) bool { return 0 <= from && from <= to && to < b.Trips }

func isRate(rate int) bool { return 0 <= rate && rate <= api.TallyRate }
