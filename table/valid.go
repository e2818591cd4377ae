package table

import (
	"prow/api"
	"prow/deck"
	"prow/landing"
	"prow/reckon"
)

func valid(b api.TableBook) bool {
	return landing.Check(b.Landing) == api.OK && deck.Check(b.Deck) == api.OK && sized(b) && allReady(b)
}

func sized(b api.TableBook) bool {
	loads := len(b.Deck.Loads)
	return reckon.Hold([]reckon.Bound{
		{Number: len(b.Landing.Tides), Low: 1, High: api.TableHours},
		{Number: len(b.Ready), Low: loads, High: loads},
		{Number: b.Takes, Low: 0, High: api.TableTakes},
		{Number: b.Turn, Low: 1, High: api.TableTurn},
	})
}

func allReady(b api.TableBook) bool {
	for _, hour := range b.Ready {
		if !isHour(b, hour) {
			return false
		}
	}
	return true
}

func isHour(b api.TableBook, hour int) bool { return 0 <= hour && hour < len(b.Landing.Tides) }

func isLoad(b api.TableBook, load int) bool { return 0 <= load && load < len(b.Deck.Loads) }

func areLoads(b api.TableBook, loads []int) bool {
	return reckon.Increase(loads, api.Span{Low: 0, High: len(b.Deck.Loads) - 1})
}

func isTimetable(b api.TableBook, table []int) bool {
	for _, hour := range table {
		if hour != api.TableStays && !isHour(b, hour) {
			return false
		}
	}
	return len(table) == len(b.Deck.Loads)
}
