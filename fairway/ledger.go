package fairway

import (
	"iter"
	"slices"

	"prow/api"
	"prow/reckon"
)

// course is how far away a ship was when it sounded, and how many cables it goes in a minute.
type course struct{ away, speed int }

// courses produces all courses on which a ship can have come, as it was heard, whatever was sighted.
func courses(x api.FairwayShip) iter.Seq[course] {
	return func(yield func(course) bool) {
		for away := range reckon.Numbers(x.Away) {
			for speed := range reckon.Numbers(x.Speed) {
				if !yield(course{away, speed}) {
					return
				}
			}
		}
	}
}

// voyage is a ship that came on a course.
type voyage struct {
	api.FairwayShip
	course
}

// distance returns how far away the ship is in a minute, on whichever side of the chain.
func (v voyage) distance(minute int) int {
	left := v.away - (minute-v.Minute)*v.speed
	return reckon.Greatest(left, -left)
}

func (v voyage) isRight(s api.FairwaySight) bool {
	return reckon.Inside(reckon.Just(v.distance(s.Minute)), s.Away)
}

// near returns in which minutes the ship is no more than so far away. There are none if it passes the chain, and all that is so near to it, between two minutes.
func (v voyage) near(breadth int) api.Span {
	before := reckon.Greatest(0, v.away-breadth)
	first := (before + v.speed - 1) / v.speed
	last := (v.away + breadth) / v.speed
	return api.Span{Low: v.Minute + first, High: v.Minute + last}
}

// truth is how far a sound is heard, and, for each ship, the minutes in which it is near, on each course on which it can have come beside that.
// A sighting is of a ship, so that ships are independent of each other: each choice of a course for each of them is a truth of the book.
type truth struct {
	hear int
	near [api.FairwayShips][]api.Span
}

// ledger is a valid book in the calculation.
type ledger struct {
	api.FairwayBook
	passes [api.FairwayShips]map[course]api.Span // for each ship, all courses that its sightings allow, and in which minutes it is near on them
	truths []truth
}

// lay returns the ledger of a valid book, as yet without its truths.
func lay(b api.FairwayBook) ledger {
	l := ledger{FairwayBook: b}
	for ship := range l.Ships {
		l.passes[ship] = l.allowed(ship)
	}
	return l
}

func (l ledger) allowed(ship int) map[course]api.Span {
	passes := map[course]api.Span{}
next:
	for c := range courses(l.Ships[ship]) {
		v := voyage{l.Ships[ship], c}
		isRight := v.isRight
		for _, s := range l.Sights {
			if s.Ship == ship && !isRight(s) {
				continue next
			}
		}
		passes[c] = v.near(l.Breadth)
	}
	return passes
}

// study returns the ledger of a book about which something is asked, or the first error: of the book, of the question (unless it is proper), of the sightings.
func study(b api.FairwayBook, proper bool) (ledger, api.Errno) {
	if e := Check(b); e != api.OK {
		return ledger{}, e
	}
	if !proper {
		return ledger{}, api.ErrFairwayAsk
	}
	l := lay(b)
	l.truths = slices.Collect(l.produce())
	if len(l.truths) == 0 {
		return ledger{}, api.ErrFairwayFalse
	}
	return l, api.OK
}

// produce returns all truths.
func (l ledger) produce() iter.Seq[truth] {
	return func(yield func(truth) bool) {
		var t truth
		var come func(ship int) bool
		come = func(ship int) bool {
			if ship == len(l.Ships) {
				return yield(t)
			}
			t.near[ship] = l.heard(ship, t.hear)
			return len(t.near[ship]) == 0 || come(ship+1)
		}
		for hear := range reckon.Numbers(l.Hear) {
			t.hear = hear
			if !come(0) {
				return
			}
		}
	}
}

// heard returns in which minutes a ship is near, on each course that its sightings allow and on which it was heard.
func (l ledger) heard(ship, hear int) []api.Span {
	var list []api.Span
	for c := range courses(l.Ships[ship]) {
		if near, is := l.passes[ship][c]; is && c.away <= hear {
			list = append(list, near)
		}
	}
	return list[:len(list):len(list)]
}

// possible reports whether there is a truth.
func (l ledger) possible() bool {
	for range l.produce() {
		return true
	}
	return false
}
