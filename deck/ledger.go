package deck

import (
	"iter"

	"prow/api"
	"prow/reckon"
)

// wagon is a load that drives on.
type wagon struct{ api.DeckLoad }

func (w wagon) toPort() api.Span { return w.Weight }

func (w wagon) inMiddle() api.Span { return reckon.Just(0) }

func (w wagon) toStar() api.Span { return api.Span{Low: -w.Weight.High, High: -w.Weight.Low} }

// pulls has for each lane what a load in it does to the least and the most of the list.
func pulls() [3]func(w wagon) api.Span {
	return [...]func(w wagon) api.Span{api.DeckPort: wagon.toPort, api.DeckMiddle: wagon.inMiddle, api.DeckStar: wagon.toStar}
}

// stand has for each load 0 while it is not on the deck, then its lane and 1.
type stand [api.DeckLoads]int

func (s stand) has(load int) bool { return s[load] > 0 }

func (s stand) place(load int) api.DeckPlace { return api.DeckPlace{Load: load, Lane: s[load] - 1} }

func (s stand) with(p api.DeckPlace) stand {
	s[p.Load] = p.Lane + 1
	return s
}

// standing returns how the loads of a stowage stand behind its last place.
func standing(on []api.DeckPlace) stand {
	var s stand
	for _, p := range on {
		s = s.with(p)
	}
	return s
}

// ledger is a valid book in the calculation.
type ledger struct {
	api.DeckBook
	pulls map[api.DeckPlace]api.Span // what each load does to the list, in each of its lanes
}

func lay(b api.DeckBook) ledger {
	l := ledger{DeckBook: b, pulls: map[api.DeckPlace]api.Span{}}
	for load, x := range b.Loads {
		for lane, pull := range pulls() {
			if reckon.Has(x.Lanes, lane) {
				l.pulls[api.DeckPlace{Load: load, Lane: lane}] = pull(wagon{x})
			}
		}
	}
	return l
}

// study returns the ledger of a book about which something is asked of a stowage, or the first error.
func study(b api.DeckBook, on []api.DeckPlace) (ledger, api.Errno) {
	if e := Check(b); e != api.OK {
		return ledger{}, e
	}
	l := lay(b)
	if !l.isStowage(on) {
		return ledger{}, api.ErrDeckAsk
	}
	return l, api.OK
}

func (l ledger) isStowage(on []api.DeckPlace) bool {
	var s stand
	for _, p := range on {
		if _, can := l.pulls[p]; !can || s.has(p.Load) {
			return false
		}
		s = s.with(p)
	}
	return true
}

// places returns all places of some loads, in their order.
func (l ledger) places(loads []int) []api.DeckPlace {
	var all []api.DeckPlace
	for _, load := range loads {
		for lane := range len(pulls()) {
			p := api.DeckPlace{Load: load, Lane: lane}
			if _, can := l.pulls[p]; can {
				all = append(all, p)
			}
		}
	}
	return all
}

// stowages produces sure stowages of some loads, the first one first.
// Loads that stand alike go on alike, in whatever order they drove on: only the first order is followed.
func (l ledger) stowages(loads []int) iter.Seq[[]api.DeckPlace] {
	return func(yield func([]api.DeckPlace) bool) {
		places, followed := l.places(loads), map[stand]bool{}
		on := make([]api.DeckPlace, 0, len(loads))
		var drive func(s stand) bool
		drive = func(s stand) bool {
			if len(on) == len(loads) {
				return yield(on[:len(on):len(on)])
			}
		next:
			for _, p := range places {
				after := s.with(p)
				if s.has(p.Load) || followed[after] || !l.isLevel(after) {
					continue next
				}
				followed[after] = true
				on = append(on, p)
				if !drive(after) {
					return false
				}
				on = on[:len(on)-1]
			}
			return true
		}
		if l.carries(loads) {
			drive(stand{})
		}
	}
}
