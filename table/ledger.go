package table

import (
	"iter"
	"slices"

	"prow/api"
	"prow/landing"
	"prow/reckon"
)

// departure is an hour, and the set of all loads that cross in it.
type departure struct{ hour, loads int }

// timetable has for each load the hour in which it crosses, or that it stays.
type timetable [api.DeckLoads]int

// staying returns the timetable in which no load crosses.
func staying() timetable {
	var t timetable
	for load := range t {
		t[load] = api.TableStays
	}
	return t
}

// timetableOf takes the list to have no more than one hour for each load: about other lists nobody asks.
func timetableOf(list []int) timetable {
	t := staying()
	copy(t[:], list)
	return t
}

// departing returns the set of all loads that cross in an hour.
func (t timetable) departing(hour int) int {
	var loads []int
	for load, its := range t {
		if its == hour {
			loads = append(loads, load)
		}
	}
	return reckon.Set(loads...)
}

// crossing returns how many loads cross.
func (t timetable) crossing() int {
	count := 0
	for _, hour := range t {
		if hour != api.TableStays {
			count++
		}
	}
	return count
}

// last returns the hour of the last departure; TableStays, which is below each hour, if no load crosses.
func (t timetable) last() int { return reckon.Greatest(api.TableStays, t[:]...) }

// ledger is a valid book in the calculation.
type ledger struct {
	api.TableBook
	crosses map[departure]bool // which loads can cross in which hours once they are ready, as far as it was asked
}

// study returns the ledger of a book about which something is asked, or the first error: of the book, of the question (unless it is proper), of the soundings.
func study(b api.TableBook, proper bool) (ledger, api.Errno) {
	if e := Check(b); e != api.OK {
		return ledger{}, e
	}
	if !proper {
		return ledger{}, api.ErrTableAsk
	}
	if right, _ := landing.Right(b.Landing); !right {
		return ledger{}, api.ErrTableFalse
	}
	return ledger{TableBook: b, crosses: map[departure]bool{}}, api.OK
}

// hours returns how many hours there are.
func (l ledger) hours() int { return len(l.Landing.Tides) }

// delayed returns the ledger of the book in which a load is ready in another hour. What was asked stays known: it does not tell who is ready.
func (l ledger) delayed(load, hour int) ledger {
	l.Ready = slices.Clone(l.Ready)
	l.Ready[load] = hour
	return l
}

// departures returns all departures of a timetable.
func (l ledger) departures(t timetable) []departure {
	var all []departure
	for hour := range l.hours() {
		if loads := t.departing(hour); loads != 0 {
			all = append(all, departure{hour, loads})
		}
	}
	return all[:len(all):len(all)]
}

// produce produces all timetables in which each load crosses in an hour in which it can, with some others or alone, and departures are not too near to each other. Among them are all that work.
func (l ledger) produce() iter.Seq[timetable] {
	return func(yield func(timetable) bool) {
		chances, t := l.chances(), staying()
		var put func(load int) bool
		put = func(load int) bool {
			if load == len(l.Ready) {
				return yield(t)
			}
			if !put(load + 1) {
				return false
			}
		next:
			for hour := range l.hours() {
				t[load] = hour
				if !reckon.Has(chances[load], hour) || !l.spaced(t) {
					continue next
				}
				if !put(load + 1) {
					return false
				}
			}
			t[load] = api.TableStays
			return true
		}
		put(0)
	}
}
