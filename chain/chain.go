// Package chain is layer 1: how thick the sections of a chain are, as the places in which they lie wear them (shared/doc/01-chain.md).
package chain

import (
	"slices"

	"prow/api"
	"prow/reckon"
)

// Check checks a book.
func Check(b api.ChainBook) api.Errno {
	if !valid(b) {
		return api.ErrChain
	}
	return api.OK
}

// Right reports whether a book can be true.
func Right(b api.ChainBook) (bool, api.Errno) {
	if e := Check(b); e != api.OK {
		return false, e
	}
	return lay(b).possible(), api.OK
}

// Thick returns how thick a section is on a day.
func Thick(b api.ChainBook, section, day int) (api.Span, api.Errno) {
	l, e := study(b, isSection(b, section) && isDay(b, day))
	if e != api.OK {
		return api.Span{}, e
	}
	return l.span(l.thickOn(spot{section, day})), api.OK
}

// Wear returns how much a place wears in a day.
func Wear(b api.ChainBook, place int) (api.Span, api.Errno) {
	l, e := study(b, isSection(b, place))
	if e != api.OK {
		return api.Span{}, e
	}
	return l.span(wearOf(place)), api.OK
}

// Thin returns the first day on which a section may be too thin.
func Thin(b api.ChainBook, section int) (int, api.Errno) {
	return firstDay(b, mayBe, section)
}

// Gone returns the first day on which a section surely is too thin.
func Gone(b api.ChainBook, section int) (int, api.Errno) {
	return firstDay(b, surelyIs, section)
}

func firstDay(b api.ChainBook, verdict, section int) (int, api.Errno) {
	l, e := study(b, isSection(b, section))
	if e != api.OK {
		return 0, e
	}
	day := l.first(verdict, section)
	if day > l.Days {
		return 0, api.ErrNone
	}
	return day, api.OK
}

// Cut returns all sections that may be too thin on a day.
func Cut(b api.ChainBook, day int) ([]int, api.Errno) {
	l, e := study(b, isDay(b, day))
	if e != api.OK {
		return nil, e
	}
	return l.thinOn(day), api.OK
}

// Fits reports whether a further survey can be right.
func Fits(b api.ChainBook, survey api.ChainSurvey) (bool, api.Errno) {
	l, e := study(b, isSurvey(b, survey))
	if e != api.OK {
		return false, e
	}
	return slices.ContainsFunc(l.truths, asked{l, survey}.right), api.OK
}

// Turn returns the day on which the chain should be turned.
func Turn(b api.ChainBook) (int, api.Errno) {
	l, e := study(b, true)
	if e != api.OK {
		return 0, e
	}
	best, latest := 0, l.soonest()
	for day := range l.Days + 1 {
		if !l.canTurn(day) {
			continue
		}
		if n := l.turned(day).soonest(); n > latest {
			best, latest = day, n
		}
	}
	if best == 0 {
		return 0, api.ErrNone
	}
	return best, api.OK
}

// Wrong returns the fewest surveys that must be wrong.
func Wrong(b api.ChainBook) ([]int, api.Errno) {
	if e := Check(b); e != api.OK {
		return nil, e
	}
	l := lay(b)
	list, _ := reckon.Fewest(len(l.Surveys), func(wrong []int) bool { return l.without(wrong).possible() })
	return list, api.OK
}
