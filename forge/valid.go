package forge

import (
	"slices"

	"prow/api"
	"prow/chain"
	"prow/reckon"
)

func valid(b api.ForgeBook) bool {
	return chain.Check(b.Chain) == api.OK && sized(b) && allFeet(b) && allOpen(b)
}

func sized(b api.ForgeBook) bool {
	sections := len(b.Chain.Sections)
	return reckon.Hold([]reckon.Bound{
		{Number: len(b.Feet), Low: sections, High: sections},
		{Number: b.New, Low: 0, High: api.ForgeNew},
		{Number: len(b.Open), Low: 0, High: api.ForgeOpen},
		{Number: b.Stock, Low: 0, High: api.ForgeStock},
		{Number: b.Make, Low: 0, High: api.ForgeMake},
	})
}

func allFeet(b api.ForgeBook) bool {
	for _, feet := range b.Feet {
		if !reckon.Inside(reckon.Just(feet), api.Span{Low: 1, High: api.ForgeFeet}) {
			return false
		}
	}
	return true
}

func allOpen(b api.ForgeBook) bool {
	return reckon.Increase(b.Open, api.Span{Low: 0, High: b.Chain.Days})
}

// isPlan takes Open to be increasing: of a wrong book nobody asks.
func isPlan(b api.ForgeBook, plan []api.ForgeWork) bool {
	for i, w := range plan {
		_, rests := slices.BinarySearch(b.Open, w.Day)
		if !rests || !isSection(b, w.Section) || i > 0 && order(plan[i-1], w) >= 0 {
			return false
		}
	}
	return true
}

func isSection(b api.ForgeBook, section int) bool {
	return 0 <= section && section < len(b.Chain.Sections)
}

func isDay(b api.ForgeBook, day int) bool { return 0 <= day && day <= b.Chain.Days }
