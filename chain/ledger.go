package chain

import (
	"iter"
	"slices"

	"prow/api"
	"prow/reckon"
)

// places has a number for each place: how much it wears in a day, or on how many days a section lay in it.
type places [api.ChainSections]int

// spot is a section on a day.
type spot struct{ section, day int }

// start is the same section on the day 0.
func (at spot) start() spot { return spot{section: at.section} }

// truth is what each place wears, and how thick each section can be at first beside that.
// A survey is of one section, so that all these spans are independent of each other: each choice of numbers from them is a truth of the book.
type truth struct {
	wear  places
	first [api.ChainSections]api.Span
}

// ledger is a valid book in the calculation.
type ledger struct {
	api.ChainBook
	lain   map[spot]places // on how many days a section lay in each place before
	truths []truth
}

// lay returns the ledger of a valid book, as yet without its truths.
func lay(b api.ChainBook) ledger {
	l := ledger{ChainBook: b}
	l.lain = l.allLain()
	return l
}

// study returns the ledger of a book about which something is asked, or the first error: of the book, of the question (unless it is proper), of the surveys.
func study(b api.ChainBook, proper bool) (ledger, api.Errno) {
	if e := Check(b); e != api.OK {
		return ledger{}, e
	}
	if !proper {
		return ledger{}, api.ErrChainAsk
	}
	l := lay(b)
	for t := range l.produce() {
		l.truths = append(l.truths, t)
	}
	if len(l.truths) == 0 {
		return ledger{}, api.ErrChainFalse
	}
	return l, api.OK
}

func (l ledger) allLain() map[spot]places {
	all := map[spot]places{}
	for section := range l.Sections {
		var lain places
		for day := range l.Days + 1 {
			at := spot{section, day}
			all[at] = lain
			lain[reckon.Place(l.ChainBook, section, day)]++
		}
	}
	return all
}

// lost returns how much thinner than at first a section is on a day.
func (l ledger) lost(wear places, at spot) int {
	if at == at.start() || wear == (places{}) {
		return 0
	}
	sum := 0
	for place, days := range l.lain[at] {
		sum += days * wear[place]
	}
	return sum
}

// produce returns all truths. A section is held against its surveys as soon as both places in which it can lie are worn.
func (l ledger) produce() iter.Seq[truth] {
	return func(yield func(truth) bool) {
		var t truth
		var worn func(place int) bool
		worn = func(place int) bool {
			if place == len(l.Sections) {
				return yield(t)
			}
			wear := l.Sections[place].Wear
		next:
			for more := range wear.High - wear.Low + 1 {
				t.wear[place] = wear.Low + more
				for _, section := range l.settled(place) {
					t.first[section] = l.surveyed(section, t.wear)
					if reckon.IsEmpty(t.first[section]) {
						continue next
					}
				}
				if !worn(place + 1) {
					return false
				}
			}
			return true
		}
		worn(0)
	}
}

// settled returns the sections that can lie in this place, and in no later one.
func (l ledger) settled(place int) []int {
	other := reckon.Across(l.ChainBook, place)
	if other > place {
		return nil
	}
	return []int{other, place}
}

// surveyed returns how thick a section can be at first if all surveys of it are right.
func (l ledger) surveyed(section int, wear places) api.Span {
	first := l.Sections[section].Thick
	for _, s := range l.Surveys {
		if s.Section == section {
			first = reckon.Meet(first, l.read(s, wear))
		}
	}
	return first
}

// read returns how thick a section is at first, as a survey tells it.
func (l ledger) read(s api.ChainSurvey, wear places) api.Span {
	then := s.Read + l.lost(wear, spot{s.Section, s.Day})
	return api.Span{Low: then - s.Error, High: then + s.Error}
}

func (l ledger) possible() bool {
	for range l.produce() {
		return true
	}
	return false
}

// without returns the ledger without some of its surveys.
func (l ledger) without(list []int) ledger {
	l.Surveys = reckon.Without(l.Surveys, list)
	return l
}

// canTurn reports whether the chain can be turned once more on a day: no survey tells of a later one, so that the truths stay what they are.
func (l ledger) canTurn(day int) bool {
	if day == 0 || slices.Contains(l.Turns, day) {
		return false
	}
	for _, s := range l.Surveys {
		if day < s.Day {
			return false
		}
	}
	return true
}

// turned returns the ledger, with the same truths, of the chain that is turned once more.
func (l ledger) turned(day int) ledger {
	l.Turns = reckon.With(l.Turns, day)
	l.lain = l.allLain()
	return l
}
