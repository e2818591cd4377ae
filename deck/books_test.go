package deck_test

import (
	"math/rand/v2"
	"slices"

	"prow/api"
)

func to(low, high int) api.Span { return api.Span{Low: low, High: high} }

func just(n int) api.Span { return to(n, n) }

// The lanes, as sets.
const (
	port   = 1
	middle = 2
	star   = 4
)

func load(weight api.Span, lanes int) api.DeckLoad {
	return api.DeckLoad{Weight: weight, Lanes: lanes}
}

// at is places: a load, and its lane, and so on.
func at(l ...int) []api.DeckPlace {
	on := []api.DeckPlace{}
	for k := 0; k < len(l); k += 2 {
		on = append(on, api.DeckPlace{Load: l[k], Lane: l[k+1]})
	}
	return on
}

type change func(b *api.DeckBook)

func with(b api.DeckBook, changes ...change) api.DeckBook {
	b = clone(b)
	for _, c := range changes {
		c(&b)
	}
	return b
}

// example is the book of the document's chapter, changed.
func example(changes ...change) api.DeckBook {
	return with(api.DeckBook{
		Loads: []api.DeckLoad{load(to(10, 12), port|star), load(to(10, 11), port|star), load(just(6), port|middle|star), load(to(20, 22), middle)},
		Rule:  12,
		Most:  40,
	}, changes...)
}

func loads(l ...api.DeckLoad) change { return func(b *api.DeckBook) { b.Loads = l } }

func weighs(load int, s api.Span) change { return func(b *api.DeckBook) { b.Loads[load].Weight = s } }

func stands(load, lanes int) change { return func(b *api.DeckBook) { b.Loads[load].Lanes = lanes } }

func rule(n int) change { return func(b *api.DeckBook) { b.Rule = n } }

func most(n int) change { return func(b *api.DeckBook) { b.Most = n } }

func strict() change { return rule(11) }

func light() change { return most(28) }

func wide() change {
	return func(b *api.DeckBook) { b.Loads = append(b.Loads, load(just(30), port)) }
}

// great is as great as a book can be: loads of 56 to 60 that can stand everywhere.
func great(changes ...change) api.DeckBook {
	return with(api.DeckBook{Loads: slices.Repeat([]api.DeckLoad{load(to(56, 60), port|middle|star)}, 5), Rule: 30, Most: 200}, changes...)
}

func clone(b api.DeckBook) api.DeckBook {
	b.Loads = slices.Clone(b.Loads)
	return b
}

// truths returns all lists of weights that loads can have.
func truths(b api.DeckBook) [][]int {
	all := [][]int{nil}
	for _, x := range b.Loads {
		var longer [][]int
		for _, l := range all {
			for n := x.Weight.Low; n <= x.Weight.High; n++ {
				longer = append(longer, append(slices.Clone(l), n))
			}
		}
		all = longer
	}
	return all
}

// listIn returns how far the deck lists in a truth, as the chapter's definitions tell.
func listIn(weights []int, on []api.DeckPlace) int {
	list := 0
	for _, p := range on {
		switch p.Lane {
		case api.DeckPort:
			list += weights[p.Load]
		case api.DeckStar:
			list -= weights[p.Load]
		}
	}
	return list
}

func levelIn(b api.DeckBook, weights []int, on []api.DeckPlace) bool {
	list := listIn(weights, on)
	return -b.Rule <= list && list <= b.Rule
}

func sum(weights []int, on []api.DeckPlace) int {
	n := 0
	for _, p := range on {
		n += weights[p.Load]
	}
	return n
}

// isSure reports whether a stowage is sure.
func isSure(b api.DeckBook, all [][]int, on []api.DeckPlace) bool {
	for _, weights := range all {
		if sum(weights, on) > b.Most {
			return false
		}
		for place := range on {
			if !levelIn(b, weights, on[:place+1]) {
				return false
			}
		}
	}
	return true
}

// stowages returns all stowages of some loads, in their order.
func stowages(b api.DeckBook, loads []int) [][]api.DeckPlace {
	if len(loads) == 0 {
		return [][]api.DeckPlace{nil}
	}
	var all [][]api.DeckPlace
	for i, first := range loads {
		rest := stowages(b, slices.Delete(slices.Clone(loads), i, i+1))
		for lane := range 3 {
			if b.Loads[first].Lanes&(1<<lane) == 0 {
				continue
			}
			for _, on := range rest {
				all = append(all, append(at(first, lane), on...))
			}
		}
	}
	return all
}

// firstSure returns the first sure stowage of some loads, and whether there is one.
func firstSure(b api.DeckBook, loads []int) ([]api.DeckPlace, bool) {
	all := truths(b)
	for _, on := range stowages(b, loads) {
		if isSure(b, all, on) {
			return on, true
		}
	}
	return nil, false
}

// members returns the numbers that a set has, increasing.
func members(set int) []int {
	l := []int{}
	for n := range api.DeckLoads {
		if set>>n&1 == 1 {
			l = append(l, n)
		}
	}
	return l
}

// together reports for each set of loads whether they can cross together.
func together(b api.DeckBook) []bool {
	can := make([]bool, 1<<len(b.Loads))
	for set := range can {
		_, can[set] = firstSure(b, members(set))
	}
	return can
}

// pick returns a number of a span.
func pick(r *rand.Rand, s api.Span) int { return s.Low + r.IntN(s.High-s.Low+1) }

// anyDeck returns a book of so many loads, with ends no more than wide apart. A few of the loads can often just about cross together.
func anyDeck(r *rand.Rand, n, wide int) api.DeckBook {
	b := api.DeckBook{Most: pick(r, to(8, 30*n))}
	base := pick(r, to(1, 20))
	for range n {
		low := min(api.DeckHeavy-wide, base*pick(r, to(1, 2))+r.IntN(4))
		b.Loads = append(b.Loads, load(to(low, low+r.IntN(wide+1)), pick(r, to(1, 7))))
	}
	b.Rule = min(api.DeckRule, r.IntN(2*base+6))
	b.Most = min(b.Most, api.DeckMost)
	return b
}

// tightDeck returns a book of so many loads of which each just about lists the deck too far, if it stands alone.
func tightDeck(r *rand.Rand, n int) api.DeckBook {
	b := api.DeckBook{Rule: pick(r, to(9, 24)), Most: api.DeckMost}
	for range n {
		high := b.Rule + 1 - r.IntN(6)
		lanes := []int{port, star, port | star}
		b.Loads = append(b.Loads, load(to(high-r.IntN(3), high), lanes[r.IntN(3)]))
	}
	return b
}

// anyBook returns a book with not too many truths.
func anyBook(r *rand.Rand) api.DeckBook {
	n := 1 + r.IntN(api.DeckLoads-1)
	if r.IntN(3) == 0 {
		return tightDeck(r, n)
	}
	return anyDeck(r, n, []int{4, 4, 3, 2}[n-1])
}

// fullBook returns one of as many loads as there can be.
func fullBook(r *rand.Rand) api.DeckBook { return anyDeck(r, api.DeckLoads, r.IntN(5)) }

func anyTruth(r *rand.Rand, b api.DeckBook) []int {
	var weights []int
	for _, x := range b.Loads {
		weights = append(weights, pick(r, x.Weight))
	}
	return weights
}

// anyStowage returns a stowage, that need not be sure.
func anyStowage(r *rand.Rand, b api.DeckBook) []api.DeckPlace {
	on := at()
	for _, n := range r.Perm(len(b.Loads))[:r.IntN(len(b.Loads)+1)] {
		lanes := members(b.Loads[n].Lanes)
		on = append(on, api.DeckPlace{Load: n, Lane: lanes[r.IntN(len(lanes))]})
	}
	return on
}

func rolls(seed uint64) *rand.Rand { return rand.New(rand.NewPCG(seed, 3)) }
