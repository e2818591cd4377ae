package coal

import (
	"prow/api"
	"prow/reckon"
)

// eaten has for each engine between which numbers it eats in a crossing.
type eaten [2]api.Span

func nothing() eaten { return eaten{reckon.Nothing(), reckon.Nothing()} }

// spans has a span for each day.
type spans [api.CoalDays]api.Span

// known is what all truths together tell.
type known struct {
	eats  eaten
	winds days  // the set of all winds of each day
	coal  spans // at the end of each day
	least spans // at the end of each day, or of one before, if there was less
	late  int   // the last day of Collier such that coal lasts if the collier comes on it, or before; the day before Collier, if there is none
}

// unknown is what is told as long as there is no truth.
func unknown(b api.CoalBook) known {
	k := known{eats: nothing(), late: b.Collier.High}
	for day := range len(k.coal) {
		k.coal[day], k.least[day] = reckon.Nothing(), reckon.Nothing()
	}
	return k
}

// and returns what is known with one truth more, in which there are so many days.
func (k known) and(t truth, days int) known {
	for engine, eats := range t.eats {
		k.eats[engine] = reckon.Join(k.eats[engine], reckon.Just(eats))
	}
	for day := range days {
		k.winds[day] |= 1 << t.winds[day]
		k.coal[day] = reckon.Join(k.coal[day], t.coal(day))
		k.least[day] = reckon.Join(k.least[day], t.least(day))
	}
	if t.least(days-1).Low < 0 {
		k.late = reckon.Least(k.late, t.comes-1)
	}
	return k
}

// coal returns how much there can be at the end of a day.
func (t truth) coal(day int) api.Span { return t.with(t.more[day]) }

// least returns how much coal there can be at the end of that day, up to this one, at which there is least.
func (t truth) least(day int) api.Span {
	return t.with(reckon.Least(t.more[0], t.more[1:day+1:day+1]...))
}

// with returns how much coal there can be if there is so much more than at first.
func (t truth) with(more int) api.Span {
	return api.Span{Low: t.heap.Low + more, High: t.heap.High + more}
}

// What is said of coal that lasts.
const (
	may    = iota // in some truth
	surely        // in each truth
)

func (k known) mayLast(day int) bool { return reckon.High().Of(k.least[day]) >= 0 }

func (k known) surelyLasts(day int) bool { return reckon.Low().Of(k.least[day]) >= 0 }

func verdicts() [2]func(k known, day int) bool {
	return [...]func(k known, day int) bool{may: known.mayLast, surely: known.surelyLasts}
}

// lasts returns 2 if coal surely lasts to the end of a day, 1 if it may, 0 if it never does.
func (k known) lasts(day int) int {
	does := verdicts()
	switch {
	case does[surely](k, day):
		return 2
	case does[may](k, day):
		return 1
	}
	return 0
}
