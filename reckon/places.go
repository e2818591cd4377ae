package reckon

import "prow/api"

// Across returns the place with which a place of a chain changes when the chain is turned.
func Across(b api.ChainBook, place int) int { return len(b.Sections) - 1 - place }

// Place returns the place in which a section of a chain lies on a day.
func Place(b api.ChainBook, section, day int) int {
	place := section
	for _, turn := range b.Turns {
		if turn <= day {
			place = Across(b, place)
		}
	}
	return place
}
