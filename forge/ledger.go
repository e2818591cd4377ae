package forge

import (
	"cmp"
	"iter"

	"prow/api"
	"prow/chain"
	"prow/reckon"
)

// sets has for each section the set of days on which it is changed.
type sets [api.ChainSections]int

// ledger is a valid book in the calculation. A section on a day is told in it as the work by which it would be changed then.
type ledger struct {
	api.ForgeBook
	wear [api.ChainSections]int // how much each place wears at most
	old  map[api.ForgeWork]int  // how thick a section is at least that never was changed, as far as it was asked
}

// lay returns the ledger of a book about which something is asked, or the first error: of the book, of the question (unless it is proper).
func lay(b api.ForgeBook, proper bool) (ledger, api.Errno) {
	if e := Check(b); e != api.OK {
		return ledger{}, e
	}
	if !proper {
		return ledger{}, api.ErrForgeAsk
	}
	return ledger{ForgeBook: b, old: map[api.ForgeWork]int{}}, api.OK
}

// study returns it with what is known of the chain, or an error if that cannot be true.
func study(b api.ForgeBook, proper bool) (ledger, api.Errno) {
	l, e := lay(b, proper)
	if e != api.OK {
		return ledger{}, e
	}
	if right, _ := chain.Right(l.Chain); !right {
		return ledger{}, api.ErrForgeFalse
	}
	for place := range l.Chain.Sections {
		wear, _ := chain.Wear(l.Chain, place)
		l.wear[place] = wear.High
	}
	return l, api.OK
}

// order compares works: which one is behind the other.
func order(a, b api.ForgeWork) int {
	return cmp.Or(cmp.Compare(a.Day, b.Day), cmp.Compare(a.Section, b.Section))
}

func setsOf(plan []api.ForgeWork) sets {
	var days sets
	for _, w := range plan {
		days[w.Section] |= 1 << w.Day
	}
	return days
}

// works returns a plan, work by work.
func (l ledger) works(days sets) []api.ForgeWork {
	if days == (sets{}) {
		return nil
	}
	var plan []api.ForgeWork
	for _, day := range l.Open {
		for section := range l.Feet {
			if reckon.Has(days[section], day) {
				plan = append(plan, api.ForgeWork{Day: day, Section: section})
			}
		}
	}
	return plan[:len(plan):len(plan)]
}

// each returns each section on each day: day by day.
func (l ledger) each() []api.ForgeWork {
	var all []api.ForgeWork
	for day := range l.Chain.Days + 1 {
		for section := range l.Feet {
			all = append(all, api.ForgeWork{Day: day, Section: section})
		}
	}
	return all
}

// produce returns safe plans, among them all that may be the best ones.
func (l ledger) produce() iter.Seq[sets] {
	return func(yield func(sets) bool) {
		var safe [api.ChainSections][]int
		for section := range l.Feet {
			safe[section] = l.safe(section)
		}
		var days sets
		var change func(section int) bool
		change = func(section int) bool {
			if section == len(l.Feet) {
				return yield(days)
			}
			for _, set := range safe[section] {
				days[section] = set
				if !change(section + 1) {
					return false
				}
			}
			return true
		}
		change(0)
	}
}

// safe returns the sets of days on which a section can be changed so that it never is too thin.
// A set is left if fewer days of it are enough: with these a plan takes fewer feet, and never more of the stock.
func (l ledger) safe(section int) []int {
	var all []int
next:
	for list := range reckon.Lists(len(l.Open)) {
		var days sets
		for _, n := range list {
			days[section] |= 1 << l.Open[n]
		}
		for _, fewer := range all {
			if fewer&days[section] == fewer {
				continue next
			}
		}
		for day := range l.Chain.Days + 1 {
			if (changed{l, days}).isThin(api.ForgeWork{Day: day, Section: section}) {
				continue next
			}
		}
		all = append(all, days[section])
	}
	return all[:len(all):len(all)]
}

// resting returns the ledger with a day more in Open.
func (l ledger) resting(day int) ledger {
	l.Open = reckon.With(l.Open, day)
	return l
}
