package landing_test

import (
	"math/rand/v2"
	"slices"

	"prow/api"
)

func to(low, high int) api.Span { return api.Span{Low: low, High: high} }

func just(n int) api.Span { return to(n, n) }

func sound(hour, shore, deep int) api.LandingSound {
	return api.LandingSound{Hour: hour, Shore: shore, Deep: deep}
}

type change func(b *api.LandingBook)

func with(b api.LandingBook, changes ...change) api.LandingBook {
	for _, c := range changes {
		c(&b)
	}
	return b
}

// example is the book of the document's chapter, changed.
func example(changes ...change) api.LandingBook {
	return with(api.LandingBook{
		Tides:  []api.Span{to(10, 12), to(14, 15), to(18, 20), to(16, 17)},
		Shores: [2]api.LandingShore{{Floor: to(2, 3), Low: 10, High: 19}, {Floor: to(4, 5), Low: 12, High: 20}},
		Empty:  to(5, 6),
		Sink:   10,
		Under:  1,
	}, changes...)
}

func tides(l ...api.Span) change { return func(b *api.LandingBook) { b.Tides = l } }

func floor(shore int, s api.Span) change {
	return func(b *api.LandingBook) { b.Shores[shore].Floor = s }
}

// reach tells between which heights the prow meets the slip of a shore.
func reach(shore, low, high int) change {
	return func(b *api.LandingBook) { b.Shores[shore].Low, b.Shores[shore].High = low, high }
}

func empty(s api.Span) change { return func(b *api.LandingBook) { b.Empty = s } }

func sink(n int) change { return func(b *api.LandingBook) { b.Sink = n } }

func under(n int) change { return func(b *api.LandingBook) { b.Under = n } }

func sounds(l ...api.LandingSound) change { return func(b *api.LandingBook) { b.Sounds = l } }

func sounded() change { return sounds(sound(0, 0, 10)) }

func torn() change { return sounds(sound(0, 0, 10), sound(0, 1, 6)) }

// ditch has the bottom at 0 at both shores, a deck that lies 2 inches deep and sinks by an inch with each hundredweight, and slips that reach everywhere.
func ditch(tides ...api.Span) api.LandingBook {
	s := api.LandingShore{Low: api.LandingLow, High: api.LandingHigh}
	return api.LandingBook{Tides: tides, Shores: [2]api.LandingShore{s, s}, Empty: just(2), Sink: 1}
}

func clone(b api.LandingBook) api.LandingBook {
	b.Tides = slices.Clone(b.Tides)
	b.Sounds = slices.Clone(b.Sounds)
	return b
}

// whole is a truth, with a number for each that is known only between bounds.
type whole struct {
	heights []int
	floors  [2]int
	empty   int
}

func isRight(w whole, s api.LandingSound) bool {
	return w.heights[s.Hour]-w.floors[s.Shore] == s.Deep
}

// lands reports whether the deck lands in a truth, as the chapter's definitions tell.
func lands(b api.LandingBook, w whole, shore, hour, load int) bool {
	sunk := 0
	for b.Sink*sunk < load {
		sunk++
	}
	height := w.heights[hour]
	return height-w.floors[shore] >= w.empty+sunk+b.Under && b.Shores[shore].Low <= height && height <= b.Shores[shore].High
}

// choices returns all lists of numbers, one of each span.
func choices(spans []api.Span) [][]int {
	all := [][]int{nil}
	for _, s := range spans {
		var longer [][]int
		for _, l := range all {
			for n := s.Low; n <= s.High; n++ {
				longer = append(longer, append(slices.Clone(l), n))
			}
		}
		all = longer
	}
	return all
}

// possible returns all of a book's truths, whether its soundings are right or not.
func possible(b api.LandingBook) []whole {
	var all []whole
	hours := len(b.Tides)
	for _, l := range choices(append(slices.Clone(b.Tides), b.Shores[0].Floor, b.Shores[1].Floor, b.Empty)) {
		all = append(all, whole{l[:hours], [2]int{l[hours], l[hours+1]}, l[hours+2]})
	}
	return all
}

func truths(b api.LandingBook) []whole {
	var l []whole
	for _, w := range possible(b) {
		if !slices.ContainsFunc(b.Sounds, func(s api.LandingSound) bool { return !isRight(w, s) }) {
			l = append(l, w)
		}
	}
	return l
}

// pick returns a number of a span.
func pick(r *rand.Rand, s api.Span) int { return s.Low + r.IntN(s.High-s.Low+1) }

// between returns a span between two numbers, its ends no more than wide apart.
func between(r *rand.Rand, low, high, wide int) api.Span {
	at := pick(r, to(low, high))
	return to(at, min(high, at+r.IntN(wide+1)))
}

// anyWater returns a book without soundings, of some hours, with ends no more than wide apart, over a bottom near base.
func anyWater(r *rand.Rand, hours, wide int) api.LandingBook {
	base := pick(r, to(api.LandingLow, api.LandingHigh-30))
	b := api.LandingBook{
		Empty: between(r, 0, 6, wide),
		Sink:  pick(r, to(1, api.LandingSink)),
		Under: r.IntN(3),
	}
	for range hours {
		b.Tides = append(b.Tides, between(r, base+4, base+30, wide))
	}
	for shore := range b.Shores {
		low := pick(r, to(base, base+14))
		b.Shores[shore] = api.LandingShore{Floor: between(r, base, base+8, wide), Low: low, High: pick(r, to(low+10, base+30))}
	}
	return b
}

// anyTides returns a book without soundings, with not too many truths.
func anyTides(r *rand.Rand) api.LandingBook {
	hours := 1 + r.IntN(3)
	return anyWater(r, hours, []int{api.LandingWide, 3, 2}[hours-1])
}

func anyTruth(r *rand.Rand, b api.LandingBook) whole {
	w := whole{empty: pick(r, b.Empty)}
	for _, s := range b.Tides {
		w.heights = append(w.heights, pick(r, s))
	}
	for shore, s := range b.Shores {
		w.floors[shore] = pick(r, s.Floor)
	}
	return w
}

// rightly returns a sounding that is right in a truth, unless no depth could be: there is none below 0.
func rightly(r *rand.Rand, b api.LandingBook, w whole) []api.LandingSound {
	hour, shore := r.IntN(len(b.Tides)), r.IntN(2)
	deep := w.heights[hour] - w.floors[shore]
	if deep < 0 {
		return nil
	}
	return []api.LandingSound{sound(hour, shore, deep)}
}

// soundRightly lets so many soundings be taken at most.
func soundRightly(r *rand.Rand, b api.LandingBook, w whole, most int) api.LandingBook {
	for range r.IntN(most + 1) {
		b.Sounds = append(b.Sounds, rightly(r, b, w)...)
	}
	return b
}

// anyBook returns a book with soundings that are right in a truth.
func anyBook(r *rand.Rand) (api.LandingBook, whole) {
	b := anyTides(r)
	w := anyTruth(r, b)
	return soundRightly(r, b, w, 3), w
}

// longBook is one of many hours.
func longBook(r *rand.Rand) (api.LandingBook, whole) {
	b := anyWater(r, pick(r, to(4, api.LandingHours)), api.LandingWide)
	w := anyTruth(r, b)
	return soundRightly(r, b, w, api.LandingSounds), w
}

// wildBook returns a book with soundings of several truths, that need not be right together, and some that are right in none.
func wildBook(r *rand.Rand) api.LandingBook {
	b := anyTides(r)
	w := anyTruth(r, b)
	for range r.IntN(api.LandingSounds + 1) {
		if r.IntN(3) == 0 {
			w = anyTruth(r, b)
		}
		l := rightly(r, b, w)
		if len(l) > 0 && r.IntN(8) == 0 {
			l[0].Deep = max(0, l[0].Deep+r.IntN(9)-4)
		}
		b.Sounds = append(b.Sounds, l...)
	}
	return b
}

// anyLoad is often one at which the deck begins to sink by one inch more.
func anyLoad(r *rand.Rand, b api.LandingBook) int {
	switch r.IntN(5) {
	case 0:
		return 0
	case 1:
		return pick(r, to(0, api.LandingLoad))
	}
	return min(api.LandingLoad, b.Sink*r.IntN(12)+r.IntN(2))
}

func rolls(seed uint64) *rand.Rand { return rand.New(rand.NewPCG(seed, 2)) }
