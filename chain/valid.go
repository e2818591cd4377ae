package chain

import (
	"prow/api"
	"prow/reckon"
)

func valid(b api.ChainBook) bool {
	return sized(b) && allSections(b) && lastsAll(b) && allTurns(b) && allSurveys(b)
}

// sized comes first: all that is calculated with these numbers afterwards is small.
func sized(b api.ChainBook) bool {
	return reckon.Hold([]reckon.Bound{
		{Number: len(b.Sections), Low: 1, High: api.ChainSections},
		{Number: b.Days, Low: 1, High: api.ChainDays},
		{Number: b.Rule, Low: 0, High: api.ChainThick},
		{Number: len(b.Turns), Low: 0, High: api.ChainTurns},
		{Number: len(b.Surveys), Low: 0, High: api.ChainSurveys},
	})
}

func allSections(b api.ChainBook) bool {
	for _, s := range b.Sections {
		thick := reckon.IsKnown(s.Thick, api.Span{Low: 0, High: api.ChainThick}, api.ChainWide)
		wear := reckon.IsKnown(s.Wear, api.Span{Low: 0, High: api.ChainWear}, api.ChainLoose)
		if !thick || !wear {
			return false
		}
	}
	return true
}

// lastsAll reports whether no section is ever thinner than 0, wherever it lies.
func lastsAll(b api.ChainBook) bool {
	worst := 0
	for _, s := range b.Sections {
		worst = max(worst, s.Wear.High)
	}
	for _, s := range b.Sections {
		if s.Thick.Low < b.Days*worst {
			return false
		}
	}
	return true
}

func allTurns(b api.ChainBook) bool {
	return reckon.Increase(b.Turns, api.Span{Low: 1, High: b.Days})
}

func allSurveys(b api.ChainBook) bool {
	for _, s := range b.Surveys {
		if !isSurvey(b, s) {
			return false
		}
	}
	return true
}

func isSurvey(b api.ChainBook, s api.ChainSurvey) bool {
	return isSection(b, s.Section) && isDay(b, s.Day) && reckon.Hold([]reckon.Bound{
		{Number: s.Read, Low: 0, High: api.ChainThick},
		{Number: s.Error, Low: 0, High: api.ChainError},
	})
}

// isSection is asked for places, too: they have the same numbers.
func isSection(b api.ChainBook, section int) bool {
	return 0 <= section && section < len(b.Sections)
}

func isDay(b api.ChainBook, day int) bool {
	return 0 <= day && day <= b.Days
}
