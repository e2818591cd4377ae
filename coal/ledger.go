package coal

import (
	"iter"

	"prow/api"
	"prow/reckon"
)

// engines has for each engine what it eats in a crossing.
type engines [2]int

// weather is a wind on a day.
type weather struct{ day, wind int }

// days has a number for each day.
type days [api.CoalDays]int

// truth is what engines eat, on which day the collier comes, and which winds there are; and how much coal there can be at first beside that.
// With each number of this span all measures are right: it makes a truth of the book.
type truth struct {
	eats  engines
	comes int
	winds days
	more  days // how much more coal there is at the end of each day than at first
	heap  api.Span
}

// before returns how much more coal there is just before a day than at first.
func (t truth) before(day int) int {
	if day == 0 {
		return 0
	}
	return t.more[day-1]
}

// ledger is a valid book in the calculation.
type ledger struct {
	api.CoalBook
	known
}

// lay returns the ledger of a valid book, as yet without its truths.
func lay(b api.CoalBook) ledger { return ledger{CoalBook: b, known: unknown(b)} }

// study returns the ledger of a book about which something is asked, or the first error: of the book, of the question (unless it is proper), of the measures.
func study(b api.CoalBook, proper bool) (ledger, api.Errno) {
	if e := Check(b); e != api.OK {
		return ledger{}, e
	}
	if !proper {
		return ledger{}, api.ErrCoalAsk
	}
	l := lay(b)
	for t := range l.truths() {
		l.known = l.and(t, len(l.Days))
	}
	if l.eats == nothing() {
		return ledger{}, api.ErrCoalFalse
	}
	return l, api.OK
}

// last returns the last day.
func (l ledger) last() int { return len(l.Days) - 1 }

// truths produces all truths.
func (l ledger) truths() iter.Seq[truth] {
	return func(yield func(truth) bool) {
		for begin := range l.begins() {
			for t := range l.blown(begin) {
				if !yield(t) {
					return
				}
			}
		}
	}
}

// begins produces what all truths begin with: no day is over.
func (l ledger) begins() iter.Seq[truth] {
	return func(yield func(truth) bool) {
		for one := range reckon.Numbers(l.Eats[0]) {
			for other := range reckon.Numbers(l.Eats[1]) {
				for comes := range reckon.Numbers(l.Collier) {
					if !yield(truth{eats: engines{one, other}, comes: comes, heap: l.Heap}) {
						return
					}
				}
			}
		}
	}
}

// blown produces all truths that begin like this. A day is held against its measures as soon as it is over.
func (l ledger) blown(begin truth) iter.Seq[truth] {
	return func(yield func(truth) bool) {
		burns := l.burns(begin.eats)
		var blow func(before truth, day int) bool
		blow = func(before truth, day int) bool {
			if day == len(l.Days) {
				return yield(before)
			}
		next:
			for wind := range len(l.Extra) {
				burnt, can := burns[weather{day, wind}]
				if !can {
					continue next
				}
				t := before
				t.winds[day] = wind
				t.more[day] = reckon.Sum(t.before(day), l.brought(t, day), -burnt)
				t.heap = l.measured(t, day)
				if reckon.IsEmpty(t.heap) {
					continue next
				}
				if !blow(t, day+1) {
					return false
				}
			}
			return true
		}
		blow(begin, 0)
	}
}

// burns returns what all crossings of a day eat, with each wind that there can be.
func (l ledger) burns(eats engines) map[weather]int {
	burns := map[weather]int{}
	for day, d := range l.Days {
		for wind, extra := range l.Extra {
			if reckon.Has(d.Winds, wind) {
				burns[weather{day, wind}] = d.Crosses * reckon.Sum(extra, eats.together(d.Engines))
			}
		}
	}
	return burns
}

// together returns what all engines of a set eat in a crossing.
func (eats engines) together(set int) int {
	var list []int
	for engine, n := range eats {
		if reckon.Has(set, engine) {
			list = append(list, n)
		}
	}
	return reckon.Sum(list[:len(list):len(list)]...)
}

// brought returns what the collier brings on a day.
func (l ledger) brought(t truth, day int) int {
	if t.comes != day {
		return 0
	}
	return l.Brings
}

// measured returns how much coal there can be at first if all measures of a day are right, too.
func (l ledger) measured(t truth, day int) api.Span {
	heap := t.heap
	for _, d := range l.Dips {
		if d.Day == day {
			first := d.Read - t.more[day]
			heap = reckon.Meet(heap, api.Span{Low: first - d.Error, High: first + d.Error})
		}
	}
	return heap
}

func (l ledger) possible() bool {
	for range l.truths() {
		return true
	}
	return false
}

// possibleWithout reports whether the book can be true without some of its measures.
func (l ledger) possibleWithout(list []int) bool {
	l.Dips = reckon.Without(l.Dips, list)
	return l.possible()
}
