package fairway

import (
	"prow/api"
	"prow/reckon"
)

func valid(b api.FairwayBook) bool { return sized(b) && isSound(b.Hear) && allShips(b) && allSights(b) }

func sized(b api.FairwayBook) bool {
	return reckon.Hold([]reckon.Bound{
		{Number: len(b.Ships), Low: 0, High: api.FairwayShips},
		{Number: b.Breadth, Low: 0, High: api.FairwayBreadth},
		{Number: b.Cross, Low: 1, High: api.FairwayCross},
		{Number: b.Slack, Low: 0, High: api.FairwaySlack},
		{Number: len(b.Sights), Low: 0, High: api.FairwaySights},
	})
}

func isSound(s api.Span) bool {
	return reckon.IsKnown(s, api.Span{Low: 1, High: api.FairwayFar}, api.FairwayFog)
}

func allShips(b api.FairwayBook) bool {
	for _, x := range b.Ships {
		away := reckon.IsKnown(x.Away, api.Span{Low: 1, High: api.FairwayFar}, api.FairwayWide)
		speed := reckon.IsKnown(x.Speed, api.Span{Low: 1, High: api.FairwayFast}, api.FairwayPace)
		if !isBegin(x.Minute) || !away || !speed {
			return false
		}
	}
	return true
}

// allSights holds sightings against their ships, which must be valid.
func allSights(b api.FairwayBook) bool {
	for _, s := range b.Sights {
		if !isShip(b, s.Ship) || !isMinute(s.Minute) || s.Minute < b.Ships[s.Ship].Minute || !isSighted(s.Away) {
			return false
		}
	}
	return true
}

// isSighted reports whether a ship can have been seen so far away: it may have been in the ferry's way, unlike when it sounded.
func isSighted(s api.Span) bool {
	return reckon.IsKnown(s, api.Span{Low: 0, High: api.FairwayFar}, api.FairwayWide)
}

func isShip(b api.FairwayBook, ship int) bool { return 0 <= ship && ship < len(b.Ships) }

func isMinute(minute int) bool { return 0 <= minute && minute <= api.FairwayEnd }

// isBegin reports whether a crossing can begin, or a ship sound, in a minute.
func isBegin(minute int) bool { return 0 <= minute && minute <= api.FairwayLast }
