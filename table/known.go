package table

import (
	"cmp"
	"slices"

	"prow/api"
	"prow/deck"
	"prow/landing"
	"prow/reckon"
)

func (l ledger) departs(d departure) int { return d.hour }

func (l ledger) arrives(d departure) int { return d.hour + l.Takes }

// slips has for each shore in which hour the deck lands there.
func slips() [2]func(l ledger, d departure) int {
	return [...]func(l ledger, d departure) int{0: ledger.departs, 1: ledger.arrives}
}

// surely is what landing.Lands tells of a deck that surely lands.
const surely = 2

// lands reports whether the deck surely lands at both shores. Not so in an hour that is none, nor with too great a load: about these landing tells no more than an error.
func (l ledger) lands(d departure) bool {
	weight := l.weight(d.loads)
	for shore, hour := range slips() {
		if sure, _ := landing.Lands(l.Landing, shore, hour(l, d), weight); sure != surely {
			return false
		}
	}
	return true
}

// weight returns how much all loads of a set weigh together, at most.
func (l ledger) weight(loads int) int {
	var highs []int
	for _, load := range reckon.Members(loads) {
		highs = append(highs, l.Deck.Loads[load].Weight.High)
	}
	return reckon.Sum(highs[:len(highs):len(highs)]...)
}

func (l ledger) together(d departure) bool {
	_, e := deck.Stow(l.Deck, reckon.Members(d.loads))
	return e == api.OK
}

func (l ledger) isReady(d departure) bool {
	for _, load := range reckon.Members(d.loads) {
		if l.Ready[load] > d.hour {
			return false
		}
	}
	return true
}

// can reports whether the loads of a departure can cross in its hour.
func (l ledger) can(d departure) bool {
	if !l.isReady(d) {
		return false
	}
	crosses, known := l.crosses[d]
	if !known {
		crosses = l.lands(d) && l.together(d)
		l.crosses[d] = crosses
	}
	return crosses
}

func (l ledger) cannot(d departure) bool { return !l.can(d) }

// chances returns for each load the set of all hours in which it can cross, with others or alone.
func (l ledger) chances() [api.DeckLoads]int {
	var chances [api.DeckLoads]int
	for hour := range l.hours() {
		for loads := range reckon.Full(len(l.Ready)) + 1 {
			if l.cannot(departure{hour, loads}) {
				continue
			}
			for _, load := range reckon.Members(loads) {
				chances[load] |= 1 << hour
			}
		}
	}
	return chances
}

// works reports whether a timetable works.
func (l ledger) works(t timetable) bool {
	return t == staying() || l.spaced(t) && !slices.ContainsFunc(l.departures(t), l.cannot)
}

// near reports whether two different departures are too near to each other.
func (l ledger) near(d, other departure) bool {
	return d != other && reckon.Greatest(d.hour-other.hour, other.hour-d.hour) < l.Turn
}

// spaced reports whether no departures of a timetable are too near to each other.
func (l ledger) spaced(t timetable) bool {
	all := l.departures(t)
	for _, d := range all {
		for _, other := range all {
			if l.near(d, other) {
				return false
			}
		}
	}
	return true
}

// beats reports whether a timetable is better than another one: in it more loads cross, or as many with an earlier last departure, or it comes first.
func (t timetable) beats(other timetable) bool {
	return cmp.Or(cmp.Compare(other.crossing(), t.crossing()), cmp.Compare(t.last(), other.last()), slices.Compare(t[:], other[:])) < 0
}

// best returns the best timetable: there is one, since that in which no load crosses works.
func (l ledger) best() timetable {
	best, _ := reckon.Choice[timetable]{Better: timetable.beats}.Of(l.produce(), l.works)
	return best
}
