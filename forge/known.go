package forge

import (
	"cmp"
	"math"
	"math/bits"
	"slices"

	"prow/api"
	"prow/chain"
	"prow/reckon"
)

// What a section is.
const (
	old   = iota // as it was at first
	fresh        // changed for a new one
)

// oldThick returns how thick a section that never was changed is at least on a day.
func (l ledger) oldThick(_, at api.ForgeWork) int {
	n, known := l.old[at]
	if !known {
		thick, _ := chain.Thick(l.Chain, at.Section, at.Day)
		n = thick.Low
		l.old[at] = n
	}
	return n
}

// newThick returns it of a section that was changed last by a work.
func (l ledger) newThick(last, at api.ForgeWork) int {
	thick := l.New
	for at != last {
		at.Day--
		thick -= l.wear[reckon.Place(l.Chain, at.Section, at.Day)]
	}
	return thick
}

func thicks() [2]func(l ledger, last, at api.ForgeWork) int {
	return [...]func(l ledger, last, at api.ForgeWork) int{old: ledger.oldThick, fresh: ledger.newThick}
}

// changed is a ledger with a plan.
type changed struct {
	ledger
	days sets
}

// last returns what a section is on a day, and by which work it was changed last, if it is a new one.
func (c changed) last(at api.ForgeWork) (int, api.ForgeWork) {
	done := c.days[at.Section] & reckon.Full(at.Day+1)
	if done == 0 {
		return old, api.ForgeWork{}
	}
	return fresh, api.ForgeWork{Day: bits.Len(uint(done)) - 1, Section: at.Section}
}

// least returns how thick a section is at least on a day.
func (c changed) least(at api.ForgeWork) int {
	kind, last := c.last(at)
	return thicks()[kind](c.ledger, last, at)
}

func (c changed) isThin(at api.ForgeWork) bool { return c.least(at) < c.Chain.Rule }

// first returns the first section that is too thin, on the first day; false, if the plan is safe.
func (c changed) first() (api.ForgeWork, bool) {
	all := c.each()
	n := slices.IndexFunc(all, c.isThin)
	if n < 0 {
		return api.ForgeWork{}, false
	}
	return all[n], true
}

// takes returns how many feet each work takes.
func (l ledger) takes(plan []api.ForgeWork) []int {
	feet := make([]int, len(plan))
	for i, w := range plan {
		feet[i] = l.Feet[w.Section]
	}
	return feet
}

func (l ledger) feet(plan []api.ForgeWork) int { return reckon.Sum(l.takes(plan)...) }

// wants returns for each work how many feet there must be in stock at first, so that it does not fall short at this work.
func (l ledger) wants(plan []api.ForgeWork) []int {
	feet := l.takes(plan)
	wants := make([]int, len(plan))
	for i, w := range plan {
		wants[i] = reckon.Sum(feet[:i+1:i+1]...) - l.Make*w.Day
	}
	return wants
}

// need returns how many feet there must be in stock at first, so that it falls short at no work.
func (l ledger) need(days sets) int { return reckon.Greatest(0, l.wants(l.works(days))...) }

// best returns the best good plan, by which of two is the better one; false, if there is none.
func (l ledger) best(better func(a, b sets) bool) (sets, bool) {
	return reckon.Choice[sets]{Better: better}.Of(l.produce(), l.suffices)
}

// suffices reports whether the stock falls short at no work of a plan.
func (l ledger) suffices(days sets) bool { return l.need(days) <= l.Stock }

// takesFewer reports whether a plan takes fewer feet than another one, or as many and comes before it.
func (l ledger) takesFewer(a, b sets) bool {
	one, other := l.works(a), l.works(b)
	return cmp.Or(cmp.Compare(l.feet(one), l.feet(other)), slices.CompareFunc(one, other, order)) < 0
}

// needsLess reports whether a plan needs less in stock than another one.
func (l ledger) needsLess(a, b sets) bool { return l.need(a) < l.need(b) }

// fewest returns how many feet the best good plan takes; more than any, if there is none.
func (l ledger) fewest() int {
	best, found := l.best(l.takesFewer)
	if !found {
		return math.MaxInt
	}
	return l.feet(l.works(best))
}
