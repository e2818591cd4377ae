package landing

import (
	"prow/api"
	"prow/reckon"
)

func valid(b api.LandingBook) bool {
	return sized(b) && allTides(b) && allShores(b) && isDraught(b.Empty) && allSounds(b)
}

func sized(b api.LandingBook) bool {
	return reckon.Hold([]reckon.Bound{
		{Number: len(b.Tides), Low: 1, High: api.LandingHours},
		{Number: b.Sink, Low: 1, High: api.LandingSink},
		{Number: b.Under, Low: 0, High: api.LandingUnder},
		{Number: len(b.Sounds), Low: 0, High: api.LandingSounds},
	})
}

// heights returns all heights that water, a bottom or the end of a slip can have.
func heights() api.Span { return api.Span{Low: api.LandingLow, High: api.LandingHigh} }

func allTides(b api.LandingBook) bool {
	for _, s := range b.Tides {
		if !isHeight(s) {
			return false
		}
	}
	return true
}

func isHeight(s api.Span) bool { return reckon.IsKnown(s, heights(), api.LandingWide) }

func allShores(b api.LandingBook) bool {
	for _, s := range b.Shores {
		slip := api.Span{Low: s.Low, High: s.High}
		if !isHeight(s.Floor) || reckon.IsEmpty(slip) || !reckon.Inside(slip, heights()) {
			return false
		}
	}
	return true
}

func isDraught(s api.Span) bool {
	return reckon.IsKnown(s, api.Span{Low: 0, High: api.LandingEmpty}, api.LandingWide)
}

func allSounds(b api.LandingBook) bool {
	for _, s := range b.Sounds {
		if !isSlip(b, slipOf(s)) || !isDeep(s.Deep) {
			return false
		}
	}
	return true
}

// isDeep reports whether a depth lies between nothing and that of the highest water over the lowest bottom.
func isDeep(n int) bool { return 0 <= n && n <= api.LandingHigh-api.LandingLow }

func isHour(b api.LandingBook, hour int) bool { return 0 <= hour && hour < len(b.Tides) }

func isShore(shore int) bool { return shore == 0 || shore == 1 }

func isSlip(b api.LandingBook, at slip) bool { return isHour(b, at.hour) && isShore(at.shore) }

func isLoad(load int) bool { return 0 <= load && load <= api.LandingLoad }
