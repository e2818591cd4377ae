package coal_test

import (
	"math/rand/v2"
	"slices"

	"prow/api"
)

func to(low, high int) api.Span { return api.Span{Low: low, High: high} }

func just(n int) api.Span { return to(n, n) }

// sets of winds, and of engines
const (
	calm   = 1 << api.CoalCalm
	breeze = 1 << api.CoalBreeze
	gale   = 1 << api.CoalGale
	one    = 1
	other  = 2
	both   = one | other
)

// on is a day: how many crossings there are, the set of its engines, and that of its winds.
func on(crosses, engines, winds int) api.CoalDay {
	return api.CoalDay{Crosses: crosses, Engines: engines, Winds: winds}
}

// dip is a measure: the day, what was read, and by how much it can be wrong.
func dip(day, read, wrong int) api.CoalDip { return api.CoalDip{Day: day, Read: read, Error: wrong} }

type change func(b *api.CoalBook)

func with(b api.CoalBook, changes ...change) api.CoalBook {
	b = clone(b)
	for _, c := range changes {
		c(&b)
	}
	return b
}

func clone(b api.CoalBook) api.CoalBook {
	b.Days, b.Dips = slices.Clone(b.Days), slices.Clone(b.Dips)
	return b
}

// example is the book of the document's chapter, changed.
func example(changes ...change) api.CoalBook {
	return with(api.CoalBook{
		Heap:    to(20, 22),
		Eats:    [2]api.Span{to(1, 2), just(2)},
		Extra:   [3]int{0, 1, 3},
		Days:    []api.CoalDay{on(2, both, calm|breeze), on(3, one, breeze), on(2, both, breeze|gale)},
		Collier: to(1, 2),
		Brings:  5,
	}, changes...)
}

// plain is a book in which the engine 0 eats 1 in each crossing, the other one never works, and calm, which costs nothing, is the only wind; there are so many crossings on each day, and no collier.
func plain(heap api.Span, crosses ...int) api.CoalBook {
	b := api.CoalBook{Heap: heap, Eats: [2]api.Span{just(1), just(9)}, Collier: just(len(crosses))}
	for _, n := range crosses {
		b.Days = append(b.Days, on(n, one, calm))
	}
	return b
}

// great is as great as a book can be.
func great(changes ...change) api.CoalBook {
	return with(api.CoalBook{
		Heap:    to(396, 400),
		Eats:    [2]api.Span{to(7, 9), to(7, 9)},
		Extra:   [3]int{0, 4, 9},
		Days:    slices.Repeat([]api.CoalDay{on(9, both, calm|breeze|gale)}, api.CoalDays),
		Collier: to(3, 6),
		Brings:  400,
		Dips:    slices.Repeat([]api.CoalDip{dip(5, 0, 9)}, api.CoalDips),
	}, changes...)
}

func heap(s api.Span) change { return func(b *api.CoalBook) { b.Heap = s } }

func eats(engine int, s api.Span) change { return func(b *api.CoalBook) { b.Eats[engine] = s } }

func extra(wind, n int) change { return func(b *api.CoalBook) { b.Extra[wind] = n } }

func days(l ...api.CoalDay) change { return func(b *api.CoalBook) { b.Days = l } }

func crosses(day, n int) change { return func(b *api.CoalBook) { b.Days[day].Crosses = n } }

func engines(day, set int) change { return func(b *api.CoalBook) { b.Days[day].Engines = set } }

func winds(day, set int) change { return func(b *api.CoalBook) { b.Days[day].Winds = set } }

func comes(low, high int) change { return func(b *api.CoalBook) { b.Collier = to(low, high) } }

func brings(n int) change { return func(b *api.CoalBook) { b.Brings = n } }

func dips(l ...api.CoalDip) change { return func(b *api.CoalBook) { b.Dips = l } }

func more(l ...api.CoalDip) change {
	return func(b *api.CoalBook) { b.Dips = slices.Concat(b.Dips, l) }
}

// raise lets there be so much more at first, and as much more to be read.
func raise(n int) change {
	return func(b *api.CoalBook) {
		b.Heap.Low, b.Heap.High = b.Heap.Low+n, b.Heap.High+n
		for i := range b.Dips {
			b.Dips[i].Read += n
		}
	}
}

func dipped() change { return dips(dip(0, 16, 0)) }

func torn() change { return dips(dip(0, 16, 0), dip(1, 9, 0)) }

// whole is a truth, and the coal at the end of each day.
type whole struct {
	eats  [2]int
	comes int
	winds []int
	coal  []int
}

// burn crosses day by day, as the chapter's definitions tell.
func burn(b api.CoalBook, heap int, eats [2]int, comes int, winds []int) whole {
	w := whole{eats: eats, comes: comes, winds: slices.Clone(winds)}
	for day := range b.Days {
		coal := heap
		if comes <= day {
			coal += b.Brings
		}
		for upTo := 0; upTo <= day; upTo++ {
			crossing := b.Extra[winds[upTo]]
			for engine, n := range eats {
				if b.Days[upTo].Engines>>engine&1 == 1 {
					crossing += n
				}
			}
			coal -= b.Days[upTo].Crosses * crossing
		}
		w.coal = append(w.coal, coal)
	}
	return w
}

// least returns the least coal at the end of a day, up to this one.
func (w whole) least(day int) int { return slices.Min(w.coal[:day+1]) }

func (w whole) lasts(day int) bool { return w.least(day) >= 0 }

func (w whole) isRight(d api.CoalDip) bool {
	off := w.coal[d.Day] - d.Read
	return -d.Error <= off && off <= d.Error
}

// allWinds returns all lists of winds, one for each day.
func allWinds(b api.CoalBook) [][]int {
	all := [][]int{nil}
	for _, d := range b.Days {
		var longer [][]int
		for _, l := range all {
			for wind := range 3 {
				if d.Winds>>wind&1 == 1 {
					longer = append(longer, append(slices.Clone(l), wind))
				}
			}
		}
		all = longer
	}
	return all
}

// possible returns all of a book's truths, whether its measures are right or not.
func possible(b api.CoalBook) []whole {
	var all []whole
	for _, winds := range allWinds(b) {
		for heap := b.Heap.Low; heap <= b.Heap.High; heap++ {
			for one := b.Eats[0].Low; one <= b.Eats[0].High; one++ {
				for other := b.Eats[1].Low; other <= b.Eats[1].High; other++ {
					for comes := b.Collier.Low; comes <= b.Collier.High; comes++ {
						all = append(all, burn(b, heap, [2]int{one, other}, comes, winds))
					}
				}
			}
		}
	}
	return all
}

// wrongIn returns the numbers of all measures that are not right in a truth.
func wrongIn(b api.CoalBook, w whole) []int {
	l := []int{}
	for n, d := range b.Dips {
		if !w.isRight(d) {
			l = append(l, n)
		}
	}
	return l
}

func truths(b api.CoalBook) []whole {
	var l []whole
	for _, w := range possible(b) {
		if len(wrongIn(b, w)) == 0 {
			l = append(l, w)
		}
	}
	return l
}

// pick returns a number of a span.
func pick(r *rand.Rand, s api.Span) int { return s.Low + r.IntN(s.High-s.Low+1) }

// between returns a span between two numbers, its ends no more than wide apart.
func between(r *rand.Rand, low, high, wide int) api.Span {
	wide = min(wide, high-low) - r.IntN(min(wide, high-low)+1)*r.IntN(2)
	at := pick(r, to(low, high-wide))
	return to(at, at+wide)
}

// season is how great the numbers of a book can be.
type season struct{ days, crosses, eats, extra int }

func small() season { return season{days: 4, crosses: 4, eats: 3, extra: 3} }

func full() season {
	return season{days: api.CoalDays, crosses: api.CoalCrosses, eats: api.CoalEats, extra: api.CoalExtra}
}

// book returns a book without measures, with about as much coal as is burnt until some day, and often about as much more from then on.
func (s season) book(r *rand.Rand) api.CoalBook {
	b := api.CoalBook{}
	for engine := range b.Eats {
		b.Eats[engine] = between(r, 0, s.eats, api.CoalLoose)
	}
	for wind := range b.Extra {
		b.Extra[wind] = r.IntN(s.extra + 1)
	}
	for range 1 + r.IntN(s.days) {
		b.Days = append(b.Days, on(r.IntN(s.crosses+1), 1+r.IntN(both), 1+r.IntN(calm|breeze|gale)))
	}
	b.Collier = between(r, 0, len(b.Days), api.CoalCollier)
	w := anyTruth(r, b)
	burnt, all := -w.coal[r.IntN(len(w.coal))], -w.coal[len(w.coal)-1]
	low := min(api.CoalHeap-api.CoalWide, max(0, burnt+r.IntN(9)-4))
	b.Heap = between(r, low, low+api.CoalWide, api.CoalWide)
	if r.IntN(4) > 0 {
		b.Brings = min(api.CoalHeap, max(0, all-burnt+r.IntN(11)-3))
	}
	return b
}

func anyTruth(r *rand.Rand, b api.CoalBook) whole {
	var winds []int
	for _, d := range b.Days {
		var can []int
		for wind := range 3 {
			if d.Winds>>wind&1 == 1 {
				can = append(can, wind)
			}
		}
		winds = append(winds, can[r.IntN(len(can))])
	}
	return burn(b, pick(r, b.Heap), [2]int{pick(r, b.Eats[0]), pick(r, b.Eats[1])}, pick(r, b.Collier), winds)
}

// rightly returns some measures, so many at most, that are right in a truth. So much may lack at the end of a day that nobody can measure it.
func rightly(r *rand.Rand, w whole, most int) []api.CoalDip {
	var l []api.CoalDip
	loose := []int{0, 2, api.CoalError}[r.IntN(3)]
	for range most {
		d := dip(r.IntN(len(w.coal)), 0, r.IntN(loose+1))
		coal := w.coal[d.Day]
		d.Read = min(2*api.CoalHeap, max(0, coal+pick(r, to(-d.Error, d.Error))))
		if coal < 0 {
			d.Error = max(d.Error, d.Read-coal)
		}
		if d.Error <= api.CoalError {
			l = append(l, d)
		}
	}
	return l
}

// anyBook returns a book with measures that are right in a truth.
func (s season) anyBook(r *rand.Rand) (api.CoalBook, whole) {
	b := s.book(r)
	w := anyTruth(r, b)
	b.Dips = rightly(r, w, r.IntN(api.CoalDips+1))
	return b, w
}

// wildBook returns a book with measures of several truths, some of which may be wrong.
func (s season) wildBook(r *rand.Rand) api.CoalBook {
	b, _ := s.anyBook(r)
	for len(b.Dips) < api.CoalDips && r.IntN(4) > 0 {
		b.Dips = append(b.Dips, rightly(r, anyTruth(r, b), 1)...)
	}
	for i := range b.Dips {
		if r.IntN(6) == 0 {
			b.Dips[i].Read = min(2*api.CoalHeap, max(0, b.Dips[i].Read+r.IntN(7)-3))
		}
	}
	return b
}

func rolls(seed uint64) *rand.Rand { return rand.New(rand.NewPCG(seed, 6)) }
