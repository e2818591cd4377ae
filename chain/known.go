package chain

import (
	"slices"

	"prow/api"
	"prow/reckon"
)

// end is an end of what is known of a number: which one of a span it is, and which one of all numbers.
type end struct {
	of   func(s api.Span) int
	pick func(all []int) int
}

func low() end {
	return end{of: func(s api.Span) int { return s.Low }, pick: slices.Min[[]int]}
}

func high() end {
	return end{of: func(s api.Span) int { return s.High }, pick: slices.Max[[]int]}
}

// reach returns an end of what all truths together tell.
func (l ledger) reach(e end, tells func(t truth) api.Span) int {
	all := make([]int, len(l.truths))
	for i, t := range l.truths {
		all[i] = e.of(tells(t))
	}
	return e.pick(all)
}

func (l ledger) span(tells func(t truth) api.Span) api.Span {
	return api.Span{Low: l.reach(low(), tells), High: l.reach(high(), tells)}
}

// thickOn tells how thick a section is on a day, in a truth.
func (l ledger) thickOn(at spot) func(t truth) api.Span {
	return func(t truth) api.Span {
		first, lost := t.first[at.section], l.lost(t.wear, at)
		return api.Span{Low: first.Low - lost, High: first.High - lost}
	}
}

// wearOf tells how much a place wears, in a truth.
func wearOf(place int) func(t truth) api.Span {
	return func(t truth) api.Span {
		return api.Span{Low: t.wear[place], High: t.wear[place]}
	}
}

// asked is a survey that is asked about.
type asked struct {
	ledger
	survey api.ChainSurvey
}

// right reports whether the survey can be right, if the places wear as in this truth.
func (a asked) right(t truth) bool {
	return !reckon.IsEmpty(reckon.Meet(t.first[a.survey.Section], a.read(a.survey, t.wear)))
}

// What is said of a section that is too thin.
const (
	mayBe    = iota // in some truth
	surelyIs        // in each truth
)

func (l ledger) mayBeThin(at spot) bool { return l.reach(low(), l.thickOn(at)) < l.Rule }

func (l ledger) surelyIsThin(at spot) bool { return l.reach(high(), l.thickOn(at)) < l.Rule }

func verdicts() [2]func(l ledger, at spot) bool {
	return [...]func(l ledger, at spot) bool{mayBe: ledger.mayBeThin, surelyIs: ledger.surelyIsThin}
}

// first returns the first day on which a section is too thin, by a verdict; Days and 1, if there is none.
func (l ledger) first(verdict, section int) int {
	thin := verdicts()[verdict]
	for day := range l.Days + 1 {
		if thin(l, spot{section, day}) {
			return day
		}
	}
	return l.Days + 1
}

// soonest returns the first day on which any section may be too thin; Days and 1, if there is none.
func (l ledger) soonest() int {
	var days []int
	for section := range l.Sections {
		days = append(days, l.first(mayBe, section))
	}
	return reckon.Least(l.Days+1, days...)
}

// thinOn returns all sections that may be too thin on a day.
func (l ledger) thinOn(day int) []int {
	var list []int
	thin := verdicts()[mayBe]
	for section := range l.Sections {
		if thin(l, spot{section, day}) {
			list = append(list, section)
		}
	}
	return list[:len(list):len(list)]
}
