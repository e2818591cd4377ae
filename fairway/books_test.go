package fairway_test

import (
	"math/rand/v2"
	"slices"

	"prow/api"
)

func to(low, high int) api.Span { return api.Span{Low: low, High: high} }

func just(n int) api.Span { return to(n, n) }

func ship(minute int, away, speed api.Span) api.FairwayShip {
	return api.FairwayShip{Minute: minute, Away: away, Speed: speed}
}

func sight(ship, minute int, away api.Span) api.FairwaySight {
	return api.FairwaySight{Ship: ship, Minute: minute, Away: away}
}

type change func(b *api.FairwayBook)

func with(b api.FairwayBook, changes ...change) api.FairwayBook {
	b = clone(b)
	for _, c := range changes {
		c(&b)
	}
	return b
}

// example is the book of the document's chapter, changed.
func example(changes ...change) api.FairwayBook {
	return with(api.FairwayBook{
		Ships:   []api.FairwayShip{ship(0, to(20, 22), just(2)), ship(4, to(36, 42), to(3, 4))},
		Hear:    to(30, 40),
		Breadth: 1,
		Cross:   5,
		Slack:   2,
	}, changes...)
}

func ships(l ...api.FairwayShip) change { return func(b *api.FairwayBook) { b.Ships = l } }

func sounds(ship, minute int) change {
	return func(b *api.FairwayBook) { b.Ships[ship].Minute = minute }
}

func away(ship int, s api.Span) change { return func(b *api.FairwayBook) { b.Ships[ship].Away = s } }

func speed(ship int, s api.Span) change { return func(b *api.FairwayBook) { b.Ships[ship].Speed = s } }

func hear(s api.Span) change { return func(b *api.FairwayBook) { b.Hear = s } }

func breadth(n int) change { return func(b *api.FairwayBook) { b.Breadth = n } }

func cross(n int) change { return func(b *api.FairwayBook) { b.Cross = n } }

func slack(n int) change { return func(b *api.FairwayBook) { b.Slack = n } }

func sights(l ...api.FairwaySight) change { return func(b *api.FairwayBook) { b.Sights = l } }

func sighted() change { return sights(sight(1, 9, just(20))) }

func torn() change { return sights(sight(1, 9, just(20)), sight(1, 9, to(25, 26))) }

// mute is that the ship 1 was farther away than a sound is heard.
func mute() change { return hear(to(30, 35)) }

// gone leaves a ship out, and its sightings.
func gone(ship int) change {
	return func(b *api.FairwayBook) {
		b.Ships = slices.Delete(b.Ships, ship, ship+1)
		b.Sights = slices.DeleteFunc(b.Sights, func(s api.FairwaySight) bool { return s.Ship == ship })
		for i := range b.Sights {
			if b.Sights[i].Ship > ship {
				b.Sights[i].Ship--
			}
		}
	}
}

// lone has some ships, a breadth of 0, crossings of 3 minutes, and a chain that is slack at once.
func lone(l ...api.FairwayShip) api.FairwayBook {
	return api.FairwayBook{Ships: l, Hear: just(120), Cross: 3}
}

// great is as great as a book can be.
func great(changes ...change) api.FairwayBook {
	return with(api.FairwayBook{
		Ships:   slices.Repeat([]api.FairwayShip{ship(60, to(114, 120), to(10, 12))}, 4),
		Hear:    to(110, 120),
		Breadth: 10,
		Cross:   20,
		Slack:   15,
		Sights:  slices.Repeat([]api.FairwaySight{sight(3, 60, to(114, 120))}, 5),
	}, changes...)
}

func clone(b api.FairwayBook) api.FairwayBook {
	b.Ships = slices.Clone(b.Ships)
	b.Sights = slices.Clone(b.Sights)
	return b
}

// whole is a truth: how far a sound is heard, and of each ship how far away it was, and how fast it comes.
type whole struct {
	hear        int
	away, speed []int
}

// awayIn returns how far away a ship is in a truth, as the chapter's definitions tell.
func awayIn(b api.FairwayBook, w whole, ship, minute int) int {
	n := w.away[ship]
	for range minute - b.Ships[ship].Minute {
		n -= w.speed[ship]
	}
	return max(n, -n)
}

func nearIn(b api.FairwayBook, w whole, ship, minute int) bool {
	return minute >= b.Ships[ship].Minute && awayIn(b, w, ship, minute) <= b.Breadth
}

// oneNearIn reports whether any ship is near.
func oneNearIn(b api.FairwayBook, w whole, minute int) bool {
	for ship := range b.Ships {
		if nearIn(b, w, ship, minute) {
			return true
		}
	}
	return false
}

func isRight(b api.FairwayBook, w whole, s api.FairwaySight) bool {
	n := awayIn(b, w, s.Ship, s.Minute)
	return s.Away.Low <= n && n <= s.Away.High
}

// clearIn reports whether a crossing is clear, if near tells when a ship is near.
func clearIn(b api.FairwayBook, near []bool, begin int) bool {
	for more := range b.Cross + b.Slack {
		if near[begin+more] {
			return false
		}
	}
	return true
}

// busy returns for each minute whether a ship is near.
func busy(b api.FairwayBook, w whole) []bool {
	near := make([]bool, api.FairwayEnd+1)
	for minute := range near {
		near[minute] = oneNearIn(b, w, minute)
	}
	return near
}

// choices returns all lists of numbers, one of each span.
func choices(spans []api.Span) [][]int {
	all := [][]int{nil}
	for _, s := range spans {
		var longer [][]int
		for _, l := range all {
			for n := s.Low; n <= s.High; n++ {
				longer = append(longer, append(slices.Clone(l), n))
			}
		}
		all = longer
	}
	return all
}

// possible returns all of a book's truths, whether its sightings are right or not.
func possible(b api.FairwayBook) []whole {
	spans, n := []api.Span{b.Hear}, len(b.Ships)
	for _, x := range b.Ships {
		spans = append(spans, x.Away)
	}
	for _, x := range b.Ships {
		spans = append(spans, x.Speed)
	}
	var all []whole
	for _, l := range choices(spans) {
		w := whole{l[0], l[1 : n+1], l[n+1:]}
		if !slices.ContainsFunc(w.away, func(away int) bool { return away > w.hear }) {
			all = append(all, w)
		}
	}
	return all
}

func truths(b api.FairwayBook) []whole {
	var l []whole
	for _, w := range possible(b) {
		if !slices.ContainsFunc(b.Sights, func(s api.FairwaySight) bool { return !isRight(b, w, s) }) {
			l = append(l, w)
		}
	}
	return l
}

// pick returns a number of a span.
func pick(r *rand.Rand, s api.Span) int { return s.Low + r.IntN(s.High-s.Low+1) }

// between returns a span between two numbers, its ends no more than wide apart.
func between(r *rand.Rand, low, high, wide int) api.Span {
	at := pick(r, to(low, high))
	return to(at, min(high, at+r.IntN(wide+1)))
}

// anyFog returns a book without sightings, of so many ships, with ends of distances, speeds and sounds no more than so far apart. Some of the ships may just not have been heard.
func anyFog(r *rand.Rand, n, wide, pace, fog int) api.FairwayBook {
	far := pick(r, to(8, api.FairwayFar-fog))
	b := api.FairwayBook{
		Hear:    to(far, far+r.IntN(fog+1)),
		Breadth: r.IntN(3),
		Cross:   pick(r, to(1, 8)),
		Slack:   r.IntN(4),
	}
	if r.IntN(5) == 0 {
		b.Breadth, b.Cross, b.Slack = r.IntN(api.FairwayBreadth+1), pick(r, to(1, api.FairwayCross)), r.IntN(api.FairwaySlack+1)
	}
	for range n {
		least := 1
		if r.IntN(2) == 0 {
			least = max(1, far-wide)
		}
		b.Ships = append(b.Ships, ship(r.IntN(api.FairwayLast+1)/(1+r.IntN(3)), between(r, least, far, wide), between(r, 1, api.FairwayFast/(1+r.IntN(4)), pace)))
	}
	for i := range b.Ships {
		if s := &b.Ships[i].Away; r.IntN(4) > 0 {
			s.High = min(api.FairwayFar, s.Low+wide)
		}
	}
	return b
}

// anyShips returns a book without sightings, with not too many truths.
func anyShips(r *rand.Rand) api.FairwayBook {
	n := 1 + r.IntN(api.FairwayShips)
	if r.IntN(30) == 0 {
		n = 0
	}
	return anyFog(r, n, []int{6, 6, 3, 2, 1}[n], []int{2, 2, 2, 1, 1}[n], []int{10, 10, 5, 3, 1}[n])
}

func anyTruth(r *rand.Rand, b api.FairwayBook) whole {
	heard := b.Hear
	for _, x := range b.Ships {
		heard.Low = max(heard.Low, x.Away.Low)
	}
	w := whole{hear: pick(r, heard)}
	for _, x := range b.Ships {
		w.away = append(w.away, pick(r, to(x.Away.Low, min(w.hear, x.Away.High))))
		w.speed = append(w.speed, pick(r, x.Speed))
	}
	return w
}

// rightly returns a sighting that is right in a truth, unless no ship is near enough to be seen.
func rightly(r *rand.Rand, b api.FairwayBook, w whole) []api.FairwaySight {
	if len(b.Ships) == 0 {
		return nil
	}
	n := r.IntN(len(b.Ships))
	minute := b.Ships[n].Minute + r.IntN(3+2*w.away[n]/w.speed[n])
	away := awayIn(b, w, n, min(minute, api.FairwayEnd))
	if minute > api.FairwayEnd || away > api.FairwayFar {
		return nil
	}
	s := to(max(0, away-r.IntN(4)), min(api.FairwayFar, away+r.IntN(4)))
	return []api.FairwaySight{sight(n, minute, s)}
}

// seeRightly lets so many sightings be had at most.
func seeRightly(r *rand.Rand, b api.FairwayBook, w whole, most int) api.FairwayBook {
	for range r.IntN(most + 1) {
		b.Sights = append(b.Sights, rightly(r, b, w)...)
	}
	return b
}

// anyBook returns a book with sightings that are right in a truth.
func anyBook(r *rand.Rand) (api.FairwayBook, whole) {
	b := anyShips(r)
	w := anyTruth(r, b)
	return seeRightly(r, b, w, 3), w
}

// fullBook is one of as many ships as there can be, of which little is known.
func fullBook(r *rand.Rand) (api.FairwayBook, whole) {
	b := anyFog(r, api.FairwayShips, api.FairwayWide, api.FairwayPace, api.FairwayFog)
	w := anyTruth(r, b)
	return seeRightly(r, b, w, api.FairwaySights), w
}

// anyOrFull returns one of both.
func anyOrFull(r *rand.Rand) (api.FairwayBook, whole) {
	if r.IntN(2) == 0 {
		return fullBook(r)
	}
	return anyBook(r)
}

// wildBook returns a book with sightings of several truths, that need not be right together, and some that are right in none. Some books have a ship that was not heard.
func wildBook(r *rand.Rand) api.FairwayBook {
	b := anyShips(r)
	w := anyTruth(r, b)
	for range r.IntN(api.FairwaySights + 1) {
		if r.IntN(3) == 0 {
			w = anyTruth(r, b)
		}
		l := rightly(r, b, w)
		if len(l) > 0 && r.IntN(4) == 0 {
			at := max(0, l[0].Away.Low+r.IntN(9)-4)
			l[0].Away = to(at, min(api.FairwayFar, at+r.IntN(3)))
		}
		b.Sights = append(b.Sights, l...)
	}
	if len(b.Ships) > 0 && r.IntN(12) == 0 {
		most := max(1, b.Ships[0].Away.Low-1)
		b.Hear = to(max(1, most-r.IntN(3)), most)
	}
	return b
}

func rolls(seed uint64) *rand.Rand { return rand.New(rand.NewPCG(seed, 4)) }
