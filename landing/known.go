package landing

import (
	"prow/api"
	"prow/reckon"
)

// height returns how high the water of an hour can be, in all truths.
func (l ledger) height(hour int) api.Span {
	all := reckon.Nothing()
	for _, t := range l.truths {
		all = reckon.Join(all, l.water(t, hour))
	}
	return all
}

// arrival is a slip at which the deck is to land, and its load.
type arrival struct {
	slip
	load int
}

// window returns between which heights of the water the deck lands in a truth, if the empty deck lies as deep as an end of what is known of it.
func (l ledger) window(t truth, a arrival, e reckon.End) api.Span {
	shore := l.Shores[a.shore]
	floats := t[a.shore] + e.Of(l.Empty) + l.sunk(a.load) + l.Under
	return api.Span{Low: reckon.Greatest(shore.Low, floats), High: shore.High}
}

// sunk returns by how many inches a load sinks the deck: the last one need not be whole.
func (l ledger) sunk(load int) int { return (load + l.Sink - 1) / l.Sink }

// How all that is known can turn out.
const (
	atWorst = iota
	atBest
)

func (l ledger) landsAtWorst(a arrival) bool {
	for _, t := range l.truths {
		if !reckon.Inside(l.water(t, a.hour), l.window(t, a, reckon.High())) {
			return false
		}
	}
	return true
}

func (l ledger) landsAtBest(a arrival) bool {
	for _, t := range l.truths {
		if !reckon.IsEmpty(reckon.Meet(l.water(t, a.hour), l.window(t, a, reckon.Low()))) {
			return true
		}
	}
	return false
}

func outcomes() [2]func(l ledger, a arrival) bool {
	return [...]func(l ledger, a arrival) bool{atWorst: ledger.landsAtWorst, atBest: ledger.landsAtBest}
}

// lands returns 2 if the deck surely lands, 1 if it may, 0 if it never does.
func (l ledger) lands(a arrival) int {
	can := outcomes()
	switch {
	case can[atWorst](l, a):
		return 2
	case can[atBest](l, a):
		return 1
	}
	return 0
}

func (l ledger) surelyLands(shore, hour, load int) bool {
	return outcomes()[atWorst](l, arrival{slip{hour, shore}, load})
}

// surelyLandsBoth reports whether the deck surely lands at each shore.
func (l ledger) surelyLandsBoth(hour, load int) bool {
	for shore := range l.Shores {
		if !l.surelyLands(shore, hour, load) {
			return false
		}
	}
	return true
}
