package table_test

import (
	"math/rand/v2"
	"slices"

	"prow/api"
)

func to(low, high int) api.Span { return api.Span{Low: low, High: high} }

func just(n int) api.Span { return to(n, n) }

// The lanes, as sets.
const (
	port   = 1
	middle = 2
	star   = 4
)

func load(weight api.Span, lanes int) api.DeckLoad {
	return api.DeckLoad{Weight: weight, Lanes: lanes}
}

func sound(hour, shore, deep int) api.LandingSound {
	return api.LandingSound{Hour: hour, Shore: shore, Deep: deep}
}

type change func(b *api.TableBook)

func with(b api.TableBook, changes ...change) api.TableBook {
	b = clone(b)
	for _, c := range changes {
		c(&b)
	}
	return b
}

func clone(b api.TableBook) api.TableBook {
	b.Landing.Tides, b.Landing.Sounds = slices.Clone(b.Landing.Tides), slices.Clone(b.Landing.Sounds)
	b.Deck.Loads, b.Ready = slices.Clone(b.Deck.Loads), slices.Clone(b.Ready)
	return b
}

// example is the book of the document's chapter, changed.
func example(changes ...change) api.TableBook {
	return with(api.TableBook{
		Landing: api.LandingBook{
			Tides:  []api.Span{to(10, 12), to(14, 15), to(18, 20), to(16, 17)},
			Shores: [2]api.LandingShore{{Floor: to(2, 3), Low: 10, High: 19}, {Floor: to(4, 5), Low: 12, High: 20}},
			Empty:  to(5, 6),
			Sink:   10,
			Under:  1,
		},
		Deck: api.DeckBook{
			Loads: []api.DeckLoad{load(to(10, 12), port|star), load(to(10, 11), port|star), load(just(6), port|middle|star), load(to(20, 22), middle)},
			Rule:  12,
			Most:  40,
		},
		Ready: []int{0, 0, 2, 0},
		Turn:  2,
	}, changes...)
}

// deep is a river over a bottom at 0, in so many hours so deep; the empty deck lies not deep at all, and sinks by an inch with each 10 hundredweights. Loads of 10 each stand in the middle alone, and the deck carries two of them.
func deep(water []int, ready ...int) api.TableBook {
	slip := api.LandingShore{Low: api.LandingLow, High: api.LandingHigh}
	b := api.TableBook{
		Landing: api.LandingBook{Shores: [2]api.LandingShore{slip, slip}, Sink: 10},
		Deck:    api.DeckBook{Most: 20},
		Ready:   ready,
		Turn:    1,
	}
	for _, n := range water {
		b.Landing.Tides = append(b.Landing.Tides, just(n))
	}
	for range ready {
		b.Deck.Loads = append(b.Deck.Loads, load(just(10), middle))
	}
	return b
}

// high is water that is high enough for each load, in so many hours.
func high(hours int) []int { return slices.Repeat([]int{api.LandingHigh}, hours) }

// great is as great as a book can be. All loads but one can cross together.
func great(changes ...change) api.TableBook {
	slip := api.LandingShore{Floor: to(-40, -36), Low: -40, High: 80}
	return with(api.TableBook{
		Landing: api.LandingBook{Tides: slices.Repeat([]api.Span{to(76, 80)}, 8), Shores: [2]api.LandingShore{slip, slip}, Empty: to(36, 40), Sink: 20, Under: 10, Sounds: slices.Repeat([]api.LandingSound{sound(7, 1, 120)}, 6)},
		Deck:    api.DeckBook{Loads: slices.Repeat([]api.DeckLoad{load(to(46, 50), port|middle|star)}, 5), Rule: 30, Most: 200},
		Ready:   []int{7, 0, 0, 0, 0},
		Takes:   3,
		Turn:    1,
	}, changes...)
}

func ready(l ...int) change { return func(b *api.TableBook) { b.Ready = l } }

func takes(n int) change { return func(b *api.TableBook) { b.Takes = n } }

func turn(n int) change { return func(b *api.TableBook) { b.Turn = n } }

func tides(l ...api.Span) change { return func(b *api.TableBook) { b.Landing.Tides = l } }

func sounds(l ...api.LandingSound) change { return func(b *api.TableBook) { b.Landing.Sounds = l } }

// reach tells between which heights the prow meets the slip of a shore.
func reach(shore, low, high int) change {
	return func(b *api.TableBook) { b.Landing.Shores[shore].Low, b.Landing.Shores[shore].High = low, high }
}

func sink(n int) change { return func(b *api.TableBook) { b.Landing.Sink = n } }

func loads(l ...api.DeckLoad) change { return func(b *api.TableBook) { b.Deck.Loads = l } }

func weighs(load int, s api.Span) change {
	return func(b *api.TableBook) { b.Deck.Loads[load].Weight = s }
}

func stands(load, lanes int) change {
	return func(b *api.TableBook) { b.Deck.Loads[load].Lanes = lanes }
}

func rule(n int) change { return func(b *api.TableBook) { b.Deck.Rule = n } }

func most(n int) change { return func(b *api.TableBook) { b.Deck.Most = n } }

// heavy lets other loads wait, in the middle alone, and as much be carried as can be.
func heavy(weights ...int) change {
	return func(b *api.TableBook) {
		b.Deck = api.DeckBook{Most: api.DeckMost}
		b.Ready = make([]int, len(weights))
		for _, n := range weights {
			b.Deck.Loads = append(b.Deck.Loads, load(just(n), middle))
		}
	}
}

func rare() change { return turn(3) }

func slow() change { return takes(1) }

func light() change { return most(39) }

func torn() change { return sounds(sound(0, 0, 10), sound(0, 1, 6)) }

// truth is a number for each that is known only between bounds.
type truth struct {
	heights []int
	floors  [2]int
	empty   int
	weights []int
}

// lands reports whether the deck lands in a truth with some loads, as the chapter on landing tells.
func (w truth) lands(b api.TableBook, shore, hour int, loads []int) bool {
	weight, sunk := 0, 0
	for _, load := range loads {
		weight += w.weights[load]
	}
	for b.Landing.Sink*sunk < weight {
		sunk++
	}
	height, slip := w.heights[hour], b.Landing.Shores[shore]
	return height-w.floors[shore] >= w.empty+sunk+b.Landing.Under && slip.Low <= height && height <= slip.High
}

// pick returns a number of a span.
func pick(r *rand.Rand, s api.Span) int { return s.Low + r.IntN(s.High-s.Low+1) }

// between returns a span between two numbers, its ends no more than wide apart.
func between(r *rand.Rand, low, high, wide int) api.Span {
	at := pick(r, to(low, high))
	return to(at, min(high, at+r.IntN(wide+1)))
}

// anyWater returns a book of landing without soundings, over a bottom near base. In most of its hours an empty deck lands.
func anyWater(r *rand.Rand, hours int) api.LandingBook {
	base := pick(r, to(api.LandingLow, api.LandingHigh-30))
	b := api.LandingBook{
		Empty: between(r, 0, 6, 2),
		Sink:  pick(r, to(3, api.LandingSink)),
		Under: r.IntN(3),
	}
	for range hours {
		b.Tides = append(b.Tides, between(r, base+8, base+28, 2))
	}
	for shore := range b.Shores {
		low := pick(r, to(base, base+12))
		b.Shores[shore] = api.LandingShore{Floor: between(r, base, base+6, 2), Low: low, High: pick(r, to(low+14, base+30))}
	}
	return b
}

func anyDeck(r *rand.Rand, loads int) api.DeckBook {
	b := api.DeckBook{Rule: pick(r, to(0, api.DeckRule)), Most: pick(r, to(10, 100))}
	for range loads {
		lanes := pick(r, to(1, port|middle|star))
		if r.IntN(2) == 0 {
			lanes |= middle
		}
		b.Loads = append(b.Loads, load(between(r, 1, 40, api.DeckWide), lanes))
	}
	return b
}

// anyTruth returns one in which soundings need not be right.
func anyTruth(r *rand.Rand, b api.TableBook) truth {
	w := truth{empty: pick(r, b.Landing.Empty)}
	for _, s := range b.Landing.Tides {
		w.heights = append(w.heights, pick(r, s))
	}
	for shore, slip := range b.Landing.Shores {
		w.floors[shore] = pick(r, slip.Floor)
	}
	for _, x := range b.Deck.Loads {
		w.weights = append(w.weights, pick(r, x.Weight))
	}
	return w
}

// rightly returns a sounding that is right in a truth.
func rightly(r *rand.Rand, b api.TableBook, w truth) api.LandingSound {
	hour, shore := r.IntN(len(b.Landing.Tides)), r.IntN(2)
	return sound(hour, shore, w.heights[hour]-w.floors[shore])
}

// bookOf returns a book of so many hours and loads, with soundings that are right in a truth.
func bookOf(r *rand.Rand, hours, loads int) (api.TableBook, truth) {
	b := api.TableBook{Landing: anyWater(r, hours), Deck: anyDeck(r, loads), Turn: 1 + r.IntN(3)}
	if r.IntN(2) == 0 {
		b.Takes = r.IntN(min(hours, api.TableTakes+1))
	}
	for range loads {
		b.Ready = append(b.Ready, max(0, r.IntN(2*hours)-hours))
	}
	w := anyTruth(r, b)
	for range r.IntN(4) {
		b.Landing.Sounds = append(b.Landing.Sounds, rightly(r, b, w))
	}
	return b, w
}

// anyBook returns a book of few timetables.
func anyBook(r *rand.Rand) (api.TableBook, truth) { return bookOf(r, 1+r.IntN(5), 1+r.IntN(4)) }

// wildBook returns a book with soundings that need not be right together.
func wildBook(r *rand.Rand) api.TableBook {
	b, _ := anyBook(r)
	if r.IntN(3) == 0 {
		b.Landing.Sounds = append(b.Landing.Sounds, rightly(r, b, anyTruth(r, b)))
	}
	return b
}

// anyTable returns a timetable that need not work.
func anyTable(r *rand.Rand, b api.TableBook) []int {
	var l []int
	for range b.Ready {
		l = append(l, pick(r, to(api.TableStays, len(b.Landing.Tides)-1)))
	}
	return l
}

// lists returns all strictly increasing lists of numbers below n.
func lists(n int) [][]int {
	all := [][]int{nil}
	for k := range n {
		for _, l := range all {
			all = append(all, append(slices.Clone(l), k))
		}
	}
	return all
}

// tables returns all timetables, in their order.
func tables(b api.TableBook) [][]int {
	all := [][]int{nil}
	for range b.Ready {
		var longer [][]int
		for _, l := range all {
			for hour := api.TableStays; hour < len(b.Landing.Tides); hour++ {
				longer = append(longer, append(slices.Clone(l), hour))
			}
		}
		all = longer
	}
	return all
}

func rolls(seed uint64) *rand.Rand { return rand.New(rand.NewPCG(seed, 8)) }
