package tally

import (
	"slices"

	"prow/api"
	"prow/reckon"
)

// record is a count that is held against others.
type record struct{ api.TallyCount }

func (r record) leg() leg { return trips(r.From, r.To) }

func (r record) least() int { return r.Told*r.Unit - r.Over }

func (r record) most() int { return r.Told*r.Unit + r.Under }

// The ends of what a count tells.
const (
	low = iota
	high
)

func ends() [2]func(r record) int {
	return [...]func(r record) int{low: record.least, high: record.most}
}

// tells returns how many crossed if the count is right.
func (r record) tells() api.Span {
	ends := ends()
	return api.Span{Low: ends[low](r), High: ends[high](r)}
}

// truth is how many crossed on each trip.
type truth []int

func (t truth) fits(room int) bool {
	return !slices.ContainsFunc(t, func(crossed int) bool { return crossed < 0 || room < crossed })
}

func (t truth) isWrong(c api.TallyCount) bool {
	sum := reckon.Sum(t[c.From : c.To+1]...)
	return !reckon.Inside(reckon.Just(sum), record{c}.tells())
}

// omission is whose counts are left out.
type omission struct {
	omits func(c api.TallyCount) bool
}

func allOf(who int) omission {
	return omission{omits: func(c api.TallyCount) bool { return c.Who == who }}
}

// from returns all other counts.
func (o omission) from(counts []api.TallyCount) []api.TallyCount {
	left := slices.DeleteFunc(slices.Clone(counts), o.omits)
	return left[:len(left):len(left)]
}

func apart(s api.Span) int { return s.High - s.Low }

// best returns the trip after which, once it is counted again, least is unknown of the day, at the worst.
func (l ledger) best() int {
	best, least := 0, apart(l.crossed(l.day()))
next:
	for trip := range reckon.Numbers(l.all()) {
		worst := 0
		for crossed := range reckon.Numbers(l.crossed(trips(trip, trip))) {
			known := l.with(exactly(trip, crossed))
			worst = reckon.Greatest(worst, apart(known.crossed(known.day())))
			if worst >= least {
				continue next // it tells no more than an earlier trip, or than nothing
			}
		}
		best, least = trip, worst
	}
	return best
}

// exactly is a count of one trip without an error.
func exactly(trip, crossed int) api.TallyCount {
	return api.TallyCount{Who: api.TallyToll, From: trip, To: trip, Told: crossed, Unit: 1}
}
