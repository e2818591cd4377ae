package deck_test

import (
	"reflect"
	"slices"
	"testing"

	"prow/api"
	"prow/deck"
)

// All functions (P3.1 to P3.8) are held here against the definitions, with all truths and all stowages one by one.

// answer is all that a function returns.
type answer struct {
	value any
	e     api.Errno
}

func be(value any, e api.Errno) answer { return answer{value, e} }

func number(n int, e api.Errno) answer { return be(n, e) }

func span(s api.Span, e api.Errno) answer { return be(s, e) }

// list makes no difference between a nil list and an empty one.
func list(l []int, e api.Errno) answer { return be(append([]int{}, l...), e) }

func places(l []api.DeckPlace, e api.Errno) answer { return be(append(at(), l...), e) }

func listOf(b api.DeckBook, on []api.DeckPlace) answer {
	all := truths(b)
	s := just(listIn(all[0], on))
	for _, weights := range all {
		n := listIn(weights, on)
		s = to(min(s.Low, n), max(s.High, n))
	}
	return span(s, api.OK)
}

func levelOf(b api.DeckBook, on []api.DeckPlace) answer {
	all, level := truths(b), 0
	for _, weights := range all {
		if levelIn(b, weights, on) {
			level++
		}
	}
	switch level {
	case len(all):
		return be(2, api.OK)
	case 0:
		return be(0, api.OK)
	}
	return be(1, api.OK)
}

func tiltsOf(b api.DeckBook, on []api.DeckPlace) answer {
	for place := range on {
		if levelOf(b, on[:place+1]).value != 2 {
			return be(place, api.OK)
		}
	}
	return be(0, api.ErrNone)
}

func stowOf(b api.DeckBook, loads []int) answer {
	on, found := firstSure(b, loads)
	if !found {
		return places(nil, api.ErrNone)
	}
	return places(on, api.OK)
}

func mostOf(can []bool) answer {
	var best []int
	for set, is := range can {
		if l := members(set); is && (len(l) > len(best) || len(l) == len(best) && slices.Compare(l, best) < 0) {
			best = l
		}
	}
	return list(best, api.OK)
}

// groups returns the set of the loads of each crossing.
func groups(l []int) []int {
	sets := make([]int, slices.Max(l)+1)
	for load, crossing := range l {
		sets[crossing] |= 1 << load
	}
	return sets
}

// numberings returns all lists of n numbers below n, in their order, that have each number below their greatest one.
func numberings(n int) [][]int {
	all := [][]int{nil}
	for range n {
		var longer [][]int
		for _, l := range all {
			for crossing := range n {
				longer = append(longer, append(slices.Clone(l), crossing))
			}
		}
		all = longer
	}
	return slices.DeleteFunc(all, func(l []int) bool { return slices.Contains(groups(l), 0) })
}

func fewestOf(can []bool, n int) answer {
	var best []int
	for _, l := range numberings(n) {
		sets := groups(l)
		fewer := best == nil || len(sets) < len(groups(best))
		if fewer && !slices.ContainsFunc(sets, func(set int) bool { return !can[set] }) {
			best = l
		}
	}
	if best == nil {
		return list(nil, api.ErrNone)
	}
	return list(best, api.OK)
}

func neverOf(can []bool, n int) answer {
	never := 1<<n - 1
	for set, is := range can {
		if is {
			never &^= set
		}
	}
	return list(members(never), api.OK)
}

func weighOf(b api.DeckBook) answer {
	best := be(0, api.ErrNone)
	greatest := -1
	for load, x := range b.Loads {
		if x.Weight.Low == x.Weight.High {
			continue
		}
		worst := len(b.Loads)
		for n := x.Weight.Low; n <= x.Weight.High; n++ {
			worst = min(worst, len(mostOf(together(with(b, weighs(load, just(n))))).value.([]int)))
		}
		if worst > greatest {
			best, greatest = be(load, api.OK), worst
		}
	}
	return best
}

func same(t *testing.T, b api.DeckBook, what string, got, want answer) {
	t.Helper()
	if !reflect.DeepEqual(got, want) {
		t.Fatalf("%s of %v: %v, not %v", what, b, got, want)
	}
}

func sameOfLoads(t *testing.T, b api.DeckBook) {
	for set := range 1 << len(b.Loads) {
		same(t, b, "Stow", places(deck.Stow(b, members(set))), stowOf(b, members(set)))
	}
	can := together(b)
	same(t, b, "Most", list(deck.Most(b)), mostOf(can))
	same(t, b, "Fewest", list(deck.Fewest(b)), fewestOf(can, len(b.Loads)))
	same(t, b, "Never", list(deck.Never(b)), neverOf(can, len(b.Loads)))
}

func TestStowageByStowage(t *testing.T) {
	r := rolls(1)
	for range 300 {
		sameOfLoads(t, anyBook(r))
	}
	for range 12 {
		sameOfLoads(t, anyDeck(r, api.DeckLoads, 1))
	}
}

func TestTruthByTruth(t *testing.T) {
	r := rolls(2)
	for i := range 400 {
		b := anyBook(r)
		if i%20 == 0 {
			b = fullBook(r)
		}
		for range 8 {
			on := anyStowage(r, b)
			same(t, b, "List", span(deck.List(b, on)), listOf(b, on))
			same(t, b, "Level", number(deck.Level(b, on)), levelOf(b, on))
			same(t, b, "Tilts", number(deck.Tilts(b, on)), tiltsOf(b, on))
		}
	}
}

func TestWeightByWeight(t *testing.T) {
	r := rolls(3)
	for i := range 200 {
		b := anyDeck(r, 1+r.IntN(3), 3)
		if i%8 == 0 {
			b = anyDeck(r, 4, 2)
		}
		same(t, b, "Weigh", number(deck.Weigh(b)), weighOf(b))
	}
}

// worst returns how many loads can cross together, at the worst, once the weight of one is known.
func worst(b api.DeckBook, load int) int {
	least := len(b.Loads)
	for n := b.Loads[load].Weight.Low; n <= b.Loads[load].Weight.High; n++ {
		l, _ := deck.Most(with(b, weighs(load, just(n))))
		least = min(least, len(l))
	}
	return least
}

// In these books it matters which load is weighed, and often the first one is not the best.
func TestTheBestWeight(t *testing.T) {
	r := rolls(4)
	for found := 0; found < 40; {
		b := tightDeck(r, 3)
		known := len(deckMost(t, b))
		if worst(b, 0) == known && worst(b, 1) == known && worst(b, 2) == known {
			continue
		}
		found++
		same(t, b, "Weigh", number(deck.Weigh(b)), weighOf(b))
	}
}

func deckMost(t *testing.T, b api.DeckBook) []int {
	t.Helper()
	l, e := deck.Most(b)
	if e != api.OK {
		t.Fatalf("Most of %v: %d", b, e)
	}
	return l
}
