package fairway_test

import (
	"reflect"
	"slices"
	"testing"

	"prow/api"
	"prow/fairway"
)

// All functions (P4.1 to P4.8) are held here against the definitions, with all truths one by one.

// answer is all that a function returns.
type answer struct {
	value any
	e     api.Errno
}

func be(value any, e api.Errno) answer { return answer{value, e} }

func number(n int, e api.Errno) answer { return be(n, e) }

func span(s api.Span, e api.Errno) answer { return be(s, e) }

// list makes no difference between a nil list and an empty one.
func list(l []int, e api.Errno) answer { return be(append([]int{}, l...), e) }

// sure tells what it means if something is so in some of all truths.
func sure(some, all int) answer {
	switch some {
	case all:
		return be(2, api.OK)
	case 0:
		return be(0, api.OK)
	}
	return be(1, api.OK)
}

func count(all []whole, is func(w whole) bool) int {
	n := 0
	for _, w := range all {
		if is(w) {
			n++
		}
	}
	return n
}

func hearOf(all []whole) answer {
	s := just(all[0].hear)
	for _, w := range all {
		s = to(min(s.Low, w.hear), max(s.High, w.hear))
	}
	return span(s, api.OK)
}

func nearOf(b api.FairwayBook, all []whole, ship, minute int) answer {
	return sure(count(all, func(w whole) bool { return nearIn(b, w, ship, minute) }), len(all))
}

func whenOf(b api.FairwayBook, all []whole, ship int) answer {
	var l []int
	for minute := range api.FairwayEnd + 1 {
		if nearOf(b, all, ship, minute).value != 0 {
			l = append(l, minute)
		}
	}
	if len(l) == 0 {
		return span(api.Span{}, api.ErrNone)
	}
	return span(to(l[0], l[len(l)-1]), api.OK)
}

// crossing is what is told of one.
type crossing struct{ clear, may answer }

func crossingOf(b api.FairwayBook, busyIn [][]bool, begin int) crossing {
	clear := 0
	for _, near := range busyIn {
		if clearIn(b, near, begin) {
			clear++
		}
	}
	c := crossing{sure(clear, len(busyIn)), number(0, api.ErrNone)}
	for minute := begin + b.Cross + b.Slack - 1; minute >= begin; minute-- {
		if slices.ContainsFunc(busyIn, func(near []bool) bool { return near[minute] }) {
			c.may = number(minute, api.OK)
		}
	}
	return c
}

// crossings returns what is told of all crossings.
func crossings(b api.FairwayBook, all []whole) []crossing {
	var busyIn [][]bool
	for _, w := range all {
		busyIn = append(busyIn, busy(b, w))
	}
	var l []crossing
	for begin := range api.FairwayLast + 1 {
		l = append(l, crossingOf(b, busyIn, begin))
	}
	return l
}

func nextOf(l []crossing, from int) answer {
	for begin := from; begin <= api.FairwayLast; begin++ {
		if l[begin].clear.value == 2 {
			return number(begin, api.OK)
		}
	}
	return number(0, api.ErrNone)
}

func freeOf(l []crossing) answer {
	free := []int{}
	for begin, c := range l {
		if c.clear.value == 2 {
			free = append(free, begin)
		}
	}
	return list(free, api.OK)
}

// wrongOf returns the fewest sightings that are not right in any truth.
func wrongOf(b api.FairwayBook) answer {
	best := list(nil, api.ErrFairwayFalse)
	for i, w := range possible(b) {
		l := []int{}
		for n, s := range b.Sights {
			if !isRight(b, w, s) {
				l = append(l, n)
			}
		}
		least := best.value.([]int)
		if i == 0 || len(l) < len(least) || len(l) == len(least) && slices.Compare(l, least) < 0 {
			best = list(l, api.OK)
		}
	}
	return best
}

func same(t *testing.T, b api.FairwayBook, what string, got, want answer) {
	t.Helper()
	if !reflect.DeepEqual(got, want) {
		t.Fatalf("%s of %v: %v, not %v", what, b, got, want)
	}
}

func sameOfShips(t *testing.T, b api.FairwayBook, all []whole) {
	for ship, x := range b.Ships {
		when := whenOf(b, all, ship)
		same(t, b, "When", span(fairway.When(b, ship)), when)
		s := when.value.(api.Span)
		for _, minute := range []int{0, x.Minute - 1, x.Minute, s.Low - 1, s.Low, s.Low + 1, (s.Low + s.High) / 2, s.High - 1, s.High, s.High + 1, api.FairwayEnd} {
			minute = max(0, minute)
			same(t, b, "Near", number(fairway.Near(b, ship, minute)), nearOf(b, all, ship, minute))
		}
	}
}

func sameOfCrossings(t *testing.T, b api.FairwayBook, all []whole) {
	l := crossings(b, all)
	same(t, b, "Free", list(fairway.Free(b)), freeOf(l))
	for begin, c := range l {
		same(t, b, "Clear", number(fairway.Clear(b, begin)), c.clear)
		same(t, b, "May", number(fairway.May(b, begin)), c.may)
		same(t, b, "Next", number(fairway.Next(b, begin)), nextOf(l, begin))
	}
}

func TestTruthByTruth(t *testing.T) {
	r := rolls(1)
	isTrue := 0
	for range 300 {
		b := wildBook(r)
		all := truths(b)
		right, e := fairway.Right(b)
		same(t, b, "Right", be(right, e), be(len(all) > 0, api.OK))
		same(t, b, "Wrong", list(fairway.Wrong(b)), wrongOf(b))
		if len(all) == 0 {
			same(t, b, "Hear", span(fairway.Hear(b)), answer{api.Span{}, api.ErrFairwayFalse})
			continue
		}
		isTrue++
		same(t, b, "Hear", span(fairway.Hear(b)), hearOf(all))
		sameOfShips(t, b, all)
		sameOfCrossings(t, b, all)
	}
	if isTrue < 100 || isTrue > 280 {
		t.Errorf("%d of 300 books can be true", isTrue)
	}
}

// The sightings of these books are all right, so that they tell much.
func TestTruthByTruthSighted(t *testing.T) {
	r := rolls(2)
	for range 150 {
		b, _ := anyBook(r)
		all := truths(b)
		same(t, b, "Hear", span(fairway.Hear(b)), hearOf(all))
		sameOfShips(t, b, all)
		sameOfCrossings(t, b, all)
	}
}
