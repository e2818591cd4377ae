package tally_test

import (
	"math/rand/v2"
	"reflect"
	"slices"
	"testing"

	"prow/api"
	"prow/tally"
)

// All functions (P5.1 to P5.8) are held here against the definitions, with all truths one by one.

// answer is all that a function returns.
type answer struct {
	value any
	e     api.Errno
}

func is(yes bool, e api.Errno) answer { return answer{yes, e} }

func number(n int, e api.Errno) answer { return answer{n, e} }

func span(s api.Span, e api.Errno) answer { return answer{s, e} }

// list makes no difference between a nil list and an empty one.
func list(l []int, e api.Errno) answer { return answer{append([]int{}, l...), e} }

// manyOf returns the least and the most of what all truths tell.
func manyOf(all [][]int, from, to int) api.Span {
	s := just(sum(all[0], from, to))
	for _, w := range all {
		n := sum(w, from, to)
		s = api.Span{Low: min(s.Low, n), High: max(s.High, n)}
	}
	return s
}

func apart(s api.Span) int { return s.High - s.Low }

// worstOf returns how far apart both ends of all that crossed still are, at the worst, once it is known how many did on a trip.
func worstOf(all [][]int, trip int) int {
	by := map[int][][]int{}
	for _, w := range all {
		by[w[trip]] = append(by[w[trip]], w)
	}
	worst := 0
	for _, some := range by {
		worst = max(worst, apart(manyOf(some, 0, len(some[0])-1)))
	}
	return worst
}

func againOf(b api.TallyBook, all [][]int) answer {
	if apart(manyOf(all, 0, b.Trips-1)) == 0 {
		return number(0, api.ErrNone)
	}
	best := 0
	for trip := range b.Trips {
		if worstOf(all, trip) < worstOf(all, best) {
			best = trip
		}
	}
	return number(best, api.OK)
}

// wrongOf returns the fewest counts that are not right in any truth.
func wrongOf(b api.TallyBook) answer {
	var best []int
	for i, w := range possible(b) {
		l := wrongIn(b, w)
		if i == 0 || len(l) < len(best) || len(l) == len(best) && slices.Compare(l, best) < 0 {
			best = l
		}
	}
	return list(best, api.OK)
}

func whoseOf(b api.TallyBook) answer {
	var l []int
	for who := range 3 {
		others := func(n int) bool { return b.Counts[n].Who != who }
		if slices.ContainsFunc(possible(b), func(w []int) bool { return !slices.ContainsFunc(wrongIn(b, w), others) }) {
			l = append(l, who)
		}
	}
	return list(l, api.OK)
}

func same(t *testing.T, b api.TallyBook, what string, got, want answer) {
	t.Helper()
	if !reflect.DeepEqual(got, want) {
		t.Fatalf("%s of %v: %v, not %v", what, b, got, want)
	}
}

// sameTold holds what is told of a book that can be true against all of its truths.
func sameTold(t *testing.T, r *rand.Rand, b api.TallyBook, all [][]int) {
	t.Helper()
	for from := range b.Trips {
		for to := from; to < b.Trips; to++ {
			same(t, b, "Many", span(tally.Many(b, from, to)), span(manyOf(all, from, to), api.OK))
		}
	}
	rate := r.IntN(api.TallyRate + 1)
	total := manyOf(all, 0, b.Trips-1)
	same(t, b, "Pays", span(tally.Pays(b, rate)), span(api.Span{Low: rate * total.Low, High: rate * total.High}, api.OK))
	same(t, b, "Again", number(tally.Again(b)), againOf(b, all))
	for range 10 {
		c := tear(r, day(b.Trips, b.Room, rightly(r, b, anyTruth(r, b), 1))).Counts[0]
		can := slices.ContainsFunc(all, func(w []int) bool { return isRight(w, c) })
		same(t, b, "Fits", is(tally.Fits(b, c)), is(can, api.OK))
	}
}

// sameCan asks for some lists, some of them with too many on a trip.
func sameCan(t *testing.T, r *rand.Rand, b api.TallyBook, all [][]int) {
	t.Helper()
	for range 5 {
		w := anyTruth(r, b)
		if len(all) > 0 && r.IntN(3) > 0 {
			w = slices.Clone(all[r.IntN(len(all))])
		}
		w[r.IntN(len(w))] += r.IntN(3) - 1
		can := slices.ContainsFunc(all, func(l []int) bool { return slices.Equal(l, w) })
		same(t, b, "Can", is(tally.Can(b, w)), is(can, api.OK))
	}
}

func TestTruthByTruth(t *testing.T) {
	r := rolls(1)
	isTrue := 0
	for range 600 {
		b := wildBook(r)
		all := truths(b)
		same(t, b, "Right", is(tally.Right(b)), is(len(all) > 0, api.OK))
		same(t, b, "Wrong", list(tally.Wrong(b)), wrongOf(b))
		same(t, b, "Whose", list(tally.Whose(b)), whoseOf(b))
		sameCan(t, r, b, all)
		if len(all) == 0 {
			same(t, b, "Many", span(tally.Many(b, 0, 0)), span(api.Span{}, api.ErrTallyFalse))
			continue
		}
		isTrue++
		sameTold(t, r, b, all)
	}
	if isTrue < 150 || isTrue > 450 {
		t.Errorf("%d of 600 books can be true", isTrue)
	}
}

// The counts of these books are all right, so that they tell much.
func TestTruthByTruthCounted(t *testing.T) {
	r := rolls(2)
	for range 400 {
		b, _ := smallBook(r)
		all := truths(b)
		sameTold(t, r, b, all)
		sameCan(t, r, b, all)
	}
}
