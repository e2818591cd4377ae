package tally_test

import (
	"math/rand/v2"
	"slices"

	"prow/api"
)

func to(low, high int) api.Span { return api.Span{Low: low, High: high} }

func just(n int) api.Span { return to(n, n) }

// count is who counted, from which trip to which, how many were told, of how many each, and by how many too few or too many.
func count(who, from, to, told, unit, under, over int) api.TallyCount {
	return api.TallyCount{Who: who, From: from, To: to, Told: told, Unit: unit, Under: under, Over: over}
}

// toll is a count of the toll man without an error.
func toll(from, to, told int) api.TallyCount { return count(api.TallyToll, from, to, told, 1, 0, 0) }

type change func(b *api.TallyBook)

func with(b api.TallyBook, changes ...change) api.TallyBook {
	b = clone(b)
	for _, c := range changes {
		c(&b)
	}
	return b
}

// example is the book of the document's chapter, changed.
func example(changes ...change) api.TallyBook {
	return with(day(4, 10, count(0, 0, 3, 1, 20, 4, 4), count(1, 0, 1, 9, 1, 2, 0), count(2, 2, 2, 6, 1, 0, 1)), changes...)
}

// day is a book of so many trips, with so much room, and some counts.
func day(trips, room int, l ...api.TallyCount) api.TallyBook {
	return api.TallyBook{Trips: trips, Room: room, Counts: l}
}

func trips(n int) change { return func(b *api.TallyBook) { b.Trips = n } }

func room(n int) change { return func(b *api.TallyBook) { b.Room = n } }

func counts(l ...api.TallyCount) change { return func(b *api.TallyBook) { b.Counts = l } }

func more(l ...api.TallyCount) change {
	return func(b *api.TallyBook) { b.Counts = slices.Concat(b.Counts, l) }
}

func torn() change { return more(toll(0, 3, 26)) }

// great is as great as a book can be.
func great(changes ...change) api.TallyBook {
	return with(day(api.TallyTrips, api.TallyRoom, slices.Repeat([]api.TallyCount{count(2, 0, 7, 20, 20, 30, 30)}, api.TallyCounts)...), changes...)
}

func clone(b api.TallyBook) api.TallyBook {
	b.Counts = slices.Clone(b.Counts)
	return b
}

// sum returns how many crossed on some trips in a truth.
func sum(w []int, from, to int) int {
	n := 0
	for trip := from; trip <= to; trip++ {
		n += w[trip]
	}
	return n
}

// isRight reports whether a count is right in a truth, as the chapter's definitions tell.
func isRight(w []int, c api.TallyCount) bool {
	n := sum(w, c.From, c.To)
	return c.Told*c.Unit-c.Over <= n && n <= c.Told*c.Unit+c.Under
}

// possible returns all of a book's truths, whether its counts are right or not.
func possible(b api.TallyBook) [][]int {
	all := [][]int{nil}
	for range b.Trips {
		var longer [][]int
		for _, w := range all {
			for n := range b.Room + 1 {
				longer = append(longer, append(slices.Clone(w), n))
			}
		}
		all = longer
	}
	return all
}

// wrongIn returns the numbers of all counts that are not right in a truth.
func wrongIn(b api.TallyBook, w []int) []int {
	l := []int{}
	for n, c := range b.Counts {
		if !isRight(w, c) {
			l = append(l, n)
		}
	}
	return l
}

func truths(b api.TallyBook) [][]int {
	var l [][]int
	for _, w := range possible(b) {
		if len(wrongIn(b, w)) == 0 {
			l = append(l, w)
		}
	}
	return l
}

// pick returns a number of a span.
func pick(r *rand.Rand, s api.Span) int { return s.Low + r.IntN(s.High-s.Low+1) }

// anyTruth returns how many truly crossed on each trip: often nobody, or as many as can.
func anyTruth(r *rand.Rand, b api.TallyBook) []int {
	w := make([]int, b.Trips)
	for trip := range w {
		w[trip] = []int{0, b.Room, pick(r, to(0, b.Room)), pick(r, to(0, b.Room))}[r.IntN(4)]
	}
	return w
}

// anyTrips returns two numbers of trips, the first one not above the second one.
func anyTrips(r *rand.Rand, b api.TallyBook) (from, to int) {
	from = r.IntN(b.Trips)
	return from, from + r.IntN(b.Trips-from)
}

// rightly returns a count that is right in a truth, with errors not much greater than they must be.
func rightly(r *rand.Rand, b api.TallyBook, w []int, loose int) api.TallyCount {
	for {
		c := count(r.IntN(3), 0, 0, 0, pick(r, to(1, []int{1, 4, api.TallyUnit}[r.IntN(3)])), r.IntN(loose+1), r.IntN(loose+1))
		c.From, c.To = anyTrips(r, b)
		n := sum(w, c.From, c.To)
		c.Told = n/c.Unit + r.IntN(2)
		c.Under = max(c.Under, n-c.Told*c.Unit)
		c.Over = max(c.Over, c.Told*c.Unit-n)
		if c.Who == api.TallyStile && isRight(w, with0(c)) {
			c = with0(c)
		}
		if c.Told <= api.TallyTold && c.Under <= api.TallyWrong && c.Over <= api.TallyWrong && (c.Who != api.TallyStile || c.Over == 0) {
			return c
		}
	}
}

// with0 is the count of one who never counts twice.
func with0(c api.TallyCount) api.TallyCount {
	c.Over = 0
	return c
}

// countRightly lets so many counts be had at most.
func countRightly(r *rand.Rand, b api.TallyBook, w []int, most int) api.TallyBook {
	b = clone(b)
	loose := []int{0, 2, 5}[r.IntN(3)]
	for range r.IntN(most + 1) {
		b.Counts = append(b.Counts, rightly(r, b, w, loose))
	}
	return b
}

// smallDay returns a book without counts, with not too many truths.
func smallDay(r *rand.Rand) api.TallyBook {
	n := 1 + r.IntN(4)
	return day(n, r.IntN([]int{30, 15, 9, 6}[n-1]))
}

// smallBook returns a book with counts that are right in a truth, with not too many truths.
func smallBook(r *rand.Rand) (api.TallyBook, []int) {
	b := smallDay(r)
	w := anyTruth(r, b)
	return countRightly(r, b, w, 5), w
}

// anyBook returns a book of as many trips, and as much room, as there can be, with counts that are right in a truth.
func anyBook(r *rand.Rand) (api.TallyBook, []int) {
	b := day(pick(r, to(1, api.TallyTrips)), pick(r, to(0, api.TallyRoom)))
	w := anyTruth(r, b)
	return countRightly(r, b, w, api.TallyCounts), w
}

// tear makes some counts of a book tell of other truths, and some of none.
func tear(r *rand.Rand, b api.TallyBook) api.TallyBook {
	b = clone(b)
	w := anyTruth(r, b)
	for i := range b.Counts {
		switch c := &b.Counts[i]; r.IntN(5) {
		case 0:
			*c = rightly(r, b, w, 1)
		case 1:
			c.Told = min(api.TallyTold, max(0, c.Told+r.IntN(5)-2))
		case 2:
			c.Under, c.Over = c.Under/2, c.Over/2
		}
	}
	return b
}

// wildBook returns a small book with counts of which some may be false.
func wildBook(r *rand.Rand) api.TallyBook {
	b, w := smallBook(r)
	b = countRightly(r, b, w, api.TallyCounts-len(b.Counts))
	if r.IntN(4) == 0 {
		return b
	}
	return tear(r, b)
}

// wildDay is as wildBook, but the book may be as great as one can be.
func wildDay(r *rand.Rand) api.TallyBook {
	b, _ := anyBook(r)
	return tear(r, b)
}

func rolls(seed uint64) *rand.Rand { return rand.New(rand.NewPCG(seed, 5)) }
