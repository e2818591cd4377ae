package chain

import "prow/api"

// bound is a number, and between which two others it must lie.
type bound struct{ number, low, high int }

func (x bound) holds() bool { return x.low <= x.number && x.number <= x.high }

func valid(b api.ChainBook) bool {
	return sized(b) && allSections(b) && lastsAll(b) && allTurns(b) && allSurveys(b)
}

// sized comes first: all that is calculated with these numbers afterwards is small.
func sized(b api.ChainBook) bool {
	for _, x := range [...]bound{
		{len(b.Sections), 1, api.ChainSections},
		{b.Days, 1, api.ChainDays},
		{b.Rule, 0, api.ChainThick},
		{len(b.Turns), 0, api.ChainTurns},
		{len(b.Surveys), 0, api.ChainSurveys},
	} {
		if !x.holds() {
			return false
		}
	}
	return true
}

func allSections(b api.ChainBook) bool {
	for _, s := range b.Sections {
		if !isSpan(s.Thick, api.ChainThick, api.ChainWide) || !isSpan(s.Wear, api.ChainWear, api.ChainLoose) {
			return false
		}
	}
	return true
}

// isSpan reports whether a span lies between 0 and high, and its two ends are no more than wide apart.
func isSpan(s api.Span, high, wide int) bool {
	return 0 <= s.Low && s.Low <= s.High && s.High <= high && s.High-s.Low <= wide
}

// lastsAll reports whether no section is ever thinner than 0, wherever it lies.
func lastsAll(b api.ChainBook) bool {
	worst := 0
	for _, s := range b.Sections {
		worst = max(worst, s.Wear.High)
	}
	for _, s := range b.Sections {
		if s.Thick.Low < b.Days*worst {
			return false
		}
	}
	return true
}

func allTurns(b api.ChainBook) bool {
	before := 0
	for _, day := range b.Turns {
		if day <= before || day > b.Days {
			return false
		}
		before = day
	}
	return true
}

func allSurveys(b api.ChainBook) bool {
	for _, s := range b.Surveys {
		if !isSurvey(b, s) {
			return false
		}
	}
	return true
}

func isSurvey(b api.ChainBook, s api.ChainSurvey) bool {
	return isSection(b, s.Section) && isDay(b, s.Day) && bound{s.Read, 0, api.ChainThick}.holds() && bound{s.Error, 0, api.ChainError}.holds()
}

// isSection is asked for places, too: they have the same numbers.
func isSection(b api.ChainBook, section int) bool {
	return 0 <= section && section < len(b.Sections)
}

func isDay(b api.ChainBook, day int) bool {
	return 0 <= day && day <= b.Days
}
