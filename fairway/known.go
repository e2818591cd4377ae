package fairway

import (
	"iter"
	"slices"

	"prow/api"
	"prow/reckon"
)

// end is an end of a span: which one of all its numbers it is.
type end struct {
	pick func(first int, more ...int) int
}

func low() end { return end{pick: reckon.Least[int]} }

func high() end { return end{pick: reckon.Greatest[int]} }

func (e end) of(numbers []int) int { return e.pick(numbers[0], numbers[1:]...) }

// around returns the span from the least to the greatest of some numbers.
func around(numbers []int) api.Span {
	return api.Span{Low: low().of(numbers), High: high().of(numbers)}
}

// hears returns how far a sound is heard in each truth.
func (l ledger) hears() []int {
	var list []int
	for _, t := range l.truths {
		list = append(list, t.hear)
	}
	return list[:len(list):len(list)]
}

// minutes has for each minute whether something can be so in it.
type minutes [api.FairwayEnd + 1]bool

func never() minutes { return minutes{} }

// list returns all minutes in which it can be so.
func (m minutes) list() []int {
	var list []int
	for minute := range len(m) {
		if m[minute] {
			list = append(list, minute)
		}
	}
	return list[:len(list):len(list)]
}

// mayBeNear returns in which minutes one of some ships is near in some truth.
func (l ledger) mayBeNear(ships api.Span) minutes {
	all := never()
	for _, t := range l.truths {
		for ship := range reckon.Numbers(ships) {
			for _, near := range t.near[ship] {
				for minute := range reckon.Numbers(near) {
					all[minute] = true
				}
			}
		}
	}
	return all
}

// ships returns the numbers of all ships.
func (l ledger) ships() api.Span { return api.Span{Low: 0, High: len(l.Ships) - 1} }

// taut returns all minutes in which the chain is not slack, for a crossing.
func (l ledger) taut(begin int) api.Span {
	return api.Span{Low: begin, High: begin + l.Cross + l.Slack - 1}
}

// question is what is asked of some ships: whether each of them is near in one of some minutes, or each in none of them.
type question struct {
	ships, minutes api.Span
	near           bool
}

func isNear(ship, minute int) question {
	return question{ships: reckon.Just(ship), minutes: reckon.Just(minute), near: true}
}

func (l ledger) isClear(begin int) question {
	return question{ships: l.ships(), minutes: l.taut(begin), near: false}
}

// does reports whether a ship does as is asked if it is near in these minutes.
func (q question) does(near api.Span) bool {
	return !reckon.IsEmpty(reckon.Meet(near, q.minutes)) == q.near
}

func (q question) doesNot(near api.Span) bool { return !q.does(near) }

// allCan reports whether each ship can do as is asked, in a truth.
func (q question) allCan(t truth) bool {
	for ship := range reckon.Numbers(q.ships) {
		if !slices.ContainsFunc(t.near[ship], q.does) {
			return false
		}
	}
	return true
}

// oneNeedNot reports whether some ship need not do as is asked, in a truth.
func (q question) oneNeedNot(t truth) bool {
	for ship := range reckon.Numbers(q.ships) {
		if slices.ContainsFunc(t.near[ship], q.doesNot) {
			return true
		}
	}
	return false
}

// In which truths it is as is asked.
const (
	inSome = iota
	inEach
)

func (l ledger) soInSome(q question) bool { return slices.ContainsFunc(l.truths, q.allCan) }

func (l ledger) soInEach(q question) bool { return !slices.ContainsFunc(l.truths, q.oneNeedNot) }

func verdicts() [2]func(l ledger, q question) bool {
	return [...]func(l ledger, q question) bool{inSome: ledger.soInSome, inEach: ledger.soInEach}
}

// sure returns 2 if it is as is asked in each truth, 1 if in some, 0 if in none: so many verdicts hold, since there is a truth.
func (l ledger) sure(q question) int {
	n := 0
	for _, holds := range verdicts() {
		if holds(l, q) {
			n++
		}
	}
	return n
}

// free produces all minutes, from one on, in which a crossing can begin that surely is clear.
func (l ledger) free(from int) iter.Seq[int] {
	return func(yield func(int) bool) {
		surely := verdicts()[inEach]
		for begin := range reckon.Numbers(api.Span{Low: from, High: api.FairwayLast}) {
			if surely(l, l.isClear(begin)) && !yield(begin) {
				return
			}
		}
	}
}
