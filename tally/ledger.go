package tally

import (
	"iter"

	"prow/api"
	"prow/reckon"
)

// leg leads from just before a trip to just before another one, on or back; behind the last trip there is one more to lead to.
type leg struct{ from, to int }

// trips returns the leg on over some trips, from one to another one.
func trips(from, to int) leg { return leg{from, to + 1} }

func (g leg) back() leg { return leg{g.to, g.from} }

// until has for each trip how many more crossed until just before it, at most, than until just before a certain one.
type until [api.TallyTrips + 1]int

// nothing is what no truth leaves: fewer crossed until just before a trip than until then.
func nothing() until {
	var u until
	for trip := range len(u) {
		u[trip] = -1
	}
	return u
}

// along returns what is known if on a leg no more than so many crossed.
func (u until) along(g leg, most int) until {
	u[g.to] = reckon.Least(u[g.to], u[g.from]+most)
	return u
}

// ledger is a valid book in the calculation.
type ledger struct {
	api.TallyBook
	most map[leg]int // for each leg, on and back, how many more crossed until its end than until its begin, as room and the counts over just these trips allow
}

func lay(b api.TallyBook) ledger {
	l := ledger{TallyBook: b, most: map[leg]int{}}
	for on := range l.legs() {
		told := l.told(on)
		l.most[on], l.most[on.back()] = told.High, -told.Low
	}
	return l
}

// possibleWith reports whether a valid book can be true with other counts.
func possibleWith(b api.TallyBook, counts []api.TallyCount) bool {
	b.Counts = counts
	return lay(b).possible()
}

// study returns the ledger of a book about which something is asked, or the first error: of the book, of the question (unless it is proper), of the counts.
func study(b api.TallyBook, proper bool) (ledger, api.Errno) {
	if e := Check(b); e != api.OK {
		return ledger{}, e
	}
	if !proper {
		return ledger{}, api.ErrTallyAsk
	}
	l := lay(b)
	if !l.possible() {
		return ledger{}, api.ErrTallyFalse
	}
	return l, api.OK
}

// with returns the ledger of the book with one count more.
func (l ledger) with(c api.TallyCount) ledger {
	b, n := l.TallyBook, len(l.Counts)
	b.Counts = append(b.Counts[:n:n], c) // the third index keeps the argument's memory as it is
	return lay(b)
}

// all returns all trips.
func (l ledger) all() api.Span { return api.Span{Low: 0, High: l.Trips - 1} }

// day returns the leg on over all trips.
func (l ledger) day() leg { return trips(0, l.Trips-1) }

// legs produces all legs on.
func (l ledger) legs() iter.Seq[leg] {
	return func(yield func(leg) bool) {
		for from := range reckon.Numbers(l.all()) {
			for to := range reckon.Numbers(api.Span{Low: from, High: l.all().High}) {
				if !yield(trips(from, to)) {
					return
				}
			}
		}
	}
}

// told returns how many crossed on a leg, as room and the counts over just these trips allow.
func (l ledger) told(on leg) api.Span {
	told := api.Span{Low: 0, High: (on.to - on.from) * l.Room}
	for n := range len(l.Counts) {
		if r := (record{l.Counts[n]}); r.leg() == on {
			told = reckon.Meet(told, r.tells())
		}
	}
	return told
}

// until returns what room and all counts together tell, from just before one trip on, and back; nothing, if there is no truth.
// A round more lets one leg more be added, and with as many legs all trips are reached: what still changes in the last round would never end.
func (l ledger) until(from int) until {
	var known until
	for trip := range len(known) {
		known[trip] = api.TallyTrips * api.TallyRoom
	}
	known[from] = 0
	for range len(known) {
		before := known
		for on := range l.legs() {
			back := on.back()
			known = known.along(on, l.most[on]).along(back, l.most[back])
		}
		if known == before {
			return known
		}
	}
	return nothing()
}

func (l ledger) possible() bool { return l.until(0) != nothing() }

// crossed returns how many crossed on a leg, of a book that can be true.
func (l ledger) crossed(on leg) api.Span {
	back := on.back()
	return api.Span{Low: -l.until(back.from)[back.to], High: l.until(on.from)[on.to]}
}
