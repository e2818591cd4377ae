package tally_test

import (
	"math"
	"math/rand/v2"
	"reflect"
	"slices"
	"testing"

	"prow/api"
	"prow/tally"
)

// answers returns what all functions return, of all trips, and of some truths and counts.
func answers(b api.TallyBook) []answer {
	l := []answer{
		number(0, tally.Check(b)), is(tally.Right(b)), list(tally.Wrong(b)), list(tally.Whose(b)), number(tally.Again(b)),
		is(tally.Can(b, make([]int, max(0, min(b.Trips, api.TallyTrips))))), span(tally.Pays(b, 7)), is(tally.Fits(b, toll(0, 0, 2))), is(tally.Fits(b, count(0, 0, b.Trips-1, 1, 20, 4, 4))),
	}
	for from := range max(1, min(b.Trips, api.TallyTrips)) {
		for to := from; to < b.Trips && to < api.TallyTrips; to++ {
			l = append(l, span(tally.Many(b, from, to)))
		}
	}
	return l
}

// P1: no argument makes a function panic, or never end.
func TestAnyArgument(t *testing.T) {
	odd := []int{math.MinInt, math.MinInt32, -1, 0, 1, 2, 8, 60, 99, math.MaxInt32, math.MaxInt}
	books := []api.TallyBook{great(), example(), example(torn()), example(counts(slices.Repeat([]api.TallyCount{toll(0, 0, 5)}, 1<<16)...))}
	for _, n := range odd {
		books = append(books, day(n, 9), day(3, n), day(n, n), example(trips(n)), example(room(n)))
		for _, m := range odd {
			books = append(books, example(more(count(n, 0, 0, m, 1, 0, 0))), example(more(count(0, n, m, 5, 1, 0, 0))), example(more(count(0, 0, 0, n, m, 0, 0))), example(more(count(0, 0, 0, 5, 1, n, m))), example(more(count(n, m, n, m, n, m, n))), day(n, m, count(n, 0, m, n, m, n, m)))
		}
	}
	for _, b := range books {
		valid := tally.Check(b) == api.OK
		for _, n := range odd {
			for _, a := range []ask{{n, n, n, []int{n}, count(n, n, n, n, n, n, n)}, {0, n, n, []int{n, n, n, n}, count(0, 0, n, 5, 1, 0, 0)}, {n, 0, n, slices.Repeat([]int{n}, api.TallyTrips), count(2, 0, 0, n, n, n, n)}, {0, 0, n, make([]int, 1<<10), count(1, 0, 0, 1, 1, n, 0)}} {
				for name, e := range a.asks(b) {
					if e == notZero || valid == (e == api.ErrTally) {
						t.Errorf("%s of a book, %v: %d", name, a, e)
					}
				}
			}
		}
		for name, e := range tells(b) {
			if e == notZero || valid == (e == api.ErrTally) {
				t.Errorf("%s of a book: %d", name, e)
			}
		}
	}
}

// R5: the sum of what is told to have crossed is not cut.
func TestSumsAreExact(t *testing.T) {
	for _, w := range [][]int{{math.MaxInt, math.MaxInt, 2, 0}, {math.MinInt, math.MinInt, 0, 0}, {math.MaxInt, math.MinInt, 1, 0}, {math.MaxInt/2 + 1, math.MaxInt/2 + 1, math.MaxInt/2 + 1, math.MaxInt/2 + 1}, {1 << 32, 0, 0, 0}, {1 << 62, 1 << 62, 1 << 62, 1 << 62}} {
		if can, e := tally.Can(day(4, 60, toll(0, 3, 0)), w); can || e != api.OK {
			t.Errorf("Can %v: %v, %d", w, can, e)
		}
	}
}

// P2: what was called before does not matter.
func TestSameAgain(t *testing.T) {
	r := rolls(3)
	var books []api.TallyBook
	var first [][]answer
	for range 100 {
		b := wildDay(r)
		books, first = append(books, b), append(first, answers(b))
	}
	for i := range books {
		i = len(books) - 1 - i
		if !reflect.DeepEqual(answers(books[i]), first[i]) {
			t.Errorf("another answer of the book %d", i)
		}
	}
}

// R3
func TestNilAndEmpty(t *testing.T) {
	for _, changes := range [][]change{nil, {trips(1)}, {trips(0)}, {trips(-1)}} {
		nothing, none := example(changes...), example(changes...)
		nothing.Counts, none.Counts = nil, []api.TallyCount{}
		if !reflect.DeepEqual(answers(nothing), answers(none)) {
			t.Error("nil and empty counts differ")
		}
		one, e := tally.Can(nothing, nil)
		two, f := tally.Can(none, []int{})
		if one != two || e != f {
			t.Error("nil and empty truths differ")
		}
	}
}

// P5.9 and R4: what lies behind an argument's end stays, too.
func TestArgumentsStay(t *testing.T) {
	spare := func(b api.TallyBook) api.TallyBook {
		b.Counts = append(b.Counts, toll(7, 7, 77), toll(7, 7, 77))[:len(b.Counts)]
		return b
	}
	all := func(b api.TallyBook) api.TallyBook {
		b.Counts = b.Counts[:cap(b.Counts)]
		return b
	}
	r := rolls(4)
	books := []api.TallyBook{example(), example(torn()), great(), day(2, 5)}
	for range 60 {
		books = append(books, wildDay(r))
	}
	for i, b := range books {
		b = spare(clone(b))
		before := clone(all(b))
		answers(b)
		if !reflect.DeepEqual(all(b), before) {
			t.Errorf("the book %d was changed: %v, %v", i, before, all(b))
		}
	}
	w := append(slices.Clone(proper().truth), 77)[:4]
	tally.Can(example(), w)
	if !slices.Equal(w[:5], []int{5, 5, 6, 3, 77}) {
		t.Errorf("a truth was changed: %v", w[:5])
	}
}

// P5.9 and R4
func TestResultsAreNew(t *testing.T) {
	b := example(torn())
	for name, tell := range map[string]func() ([]int, api.Errno){
		"Wrong": func() ([]int, api.Errno) { return tally.Wrong(b) },
		"Whose": func() ([]int, api.Errno) { return tally.Whose(b) },
	} {
		one, _ := tell()
		want := slices.Clone(one)
		for i := range one {
			one[i] = 99
		}
		one = append(one, 99)
		if two, _ := tell(); !slices.Equal(two, want) || len(want) == 0 {
			t.Errorf("%s keeps its result: %v", name, two)
		}
	}
}

// P5.9: nothing of an argument is kept, though it is changed afterwards.
func TestArgumentsAreNotKept(t *testing.T) {
	b := example()
	want := answers(b)
	b.Counts[0].Told, b.Counts[2].Under = 0, 5
	if reflect.DeepEqual(answers(b), want) {
		t.Error("the answers are those of the book as it was")
	}
	if !reflect.DeepEqual(answers(example()), want) {
		t.Error("the answers are not those of the book as it was")
	}
}

func has(s api.Span, n int) bool { return s.Low <= n && n <= s.High }

func inside(a, b api.Span) bool { return b.Low <= a.Low && a.High <= b.High }

func many(t *testing.T, b api.TallyBook, from, to int) api.Span {
	t.Helper()
	s, e := tally.Many(b, from, to)
	if e != api.OK {
		t.Fatalf("Many of %v, %d, %d: %d", b, from, to, e)
	}
	return s
}

func fits(t *testing.T, b api.TallyBook, c api.TallyCount) bool {
	t.Helper()
	can, e := tally.Fits(b, c)
	if e != api.OK {
		t.Fatalf("Fits of %v, %v: %d", b, c, e)
	}
	return can
}

func isTrue(b api.TallyBook) bool {
	right, _ := tally.Right(b)
	return right
}

// P5.10: however many truly crossed, and however it was rightly counted.
func TestWhoTrulyCrossed(t *testing.T) {
	r := rolls(10)
	for range 1500 {
		b, w := anyBook(r)
		same(t, b, "Right", is(tally.Right(b)), is(true, api.OK))
		same(t, b, "Can", is(tally.Can(b, w)), is(true, api.OK))
		same(t, b, "Wrong", list(tally.Wrong(b)), list(nil, api.OK))
		same(t, b, "Whose", list(tally.Whose(b)), list([]int{0, 1, 2}, api.OK))
		for from := range b.Trips {
			for to := from; to < b.Trips; to++ {
				if s, n := many(t, b, from, to), sum(w, from, to); !has(s, n) {
					t.Fatalf("Many of %v, %d, %d: %v, but %d crossed", b, from, to, s, n)
				}
			}
		}
		rate := r.IntN(api.TallyRate + 1)
		if s, e := tally.Pays(b, rate); e != api.OK || !has(s, rate*sum(w, 0, b.Trips-1)) {
			t.Fatalf("Pays of %v, %d: %v, %d, but %v crossed", b, rate, s, e, w)
		}
		if c := rightly(r, b, w, 3); !fits(t, b, c) {
			t.Fatalf("Fits of %v, %v: false, but %v crossed", b, c, w)
		}
	}
}

// exactly is two counts that are right only if just so many crossed, though they are more than can be told one by one.
func exactly(from, to, n int) [2]api.TallyCount {
	told := n / api.TallyUnit
	return [2]api.TallyCount{
		count(0, from, to, told, api.TallyUnit, n-told*api.TallyUnit, 0),
		count(2, from, to, told+1, api.TallyUnit, 0, (told+1)*api.TallyUnit-n),
	}
}

// P5.11: each number from one end to the other can be counted, and nothing beyond can.
func TestEachNumberCanBeCounted(t *testing.T) {
	r := rolls(11)
	for range 200 {
		b, w := anyBook(r)
		b.Counts = b.Counts[:min(len(b.Counts), api.TallyCounts-1)] // one of two counts must be had, and the other one is a ninth
		from, to := anyTrips(r, b)
		s := many(t, b, from, to)
		for n := max(0, s.Low-3); n <= s.High+3; n++ {
			if n <= api.TallyTold && fits(t, b, toll(from, to, n)) != has(s, n) {
				t.Fatalf("Fits of %v, %d to %d, %d: %v, but Many is %v", b, from, to, n, !has(s, n), s)
			}
			pair := exactly(from, to, n)
			half := with(b, more(pair[0]))
			if can := isTrue(half) && fits(t, half, pair[1]); can != has(s, n) {
				t.Fatalf("%d from %d to %d of %v: %v, but Many is %v, and %v is true", n, from, to, b, can, s, w)
			}
		}
	}
}

// P5.12: trips that follow one another.
func TestTripsTogether(t *testing.T) {
	r := rolls(12)
	for range 500 {
		b, _ := anyBook(r)
		for from := range b.Trips {
			for to := from + 1; to < b.Trips; to++ {
				for last := from; last < to; last++ {
					both, one, two := many(t, b, from, to), many(t, b, from, last), many(t, b, last+1, to)
					if both.Low < one.Low+two.Low || one.High+two.High < both.High {
						t.Fatalf("Many of %v, %d to %d: %v; but %v to %d, and then %v", b, from, to, both, one, last, two)
					}
				}
			}
		}
	}
}

// P5.12: one count more lets nothing be that could not be.
func TestOneCountMore(t *testing.T) {
	r := rolls(13)
	for range 500 {
		b, w := anyBook(r)
		b.Counts = b.Counts[:min(len(b.Counts), api.TallyCounts-1)]
		then := with(b, more(rightly(r, b, w, 2)))
		for from := range b.Trips {
			for to := from; to < b.Trips; to++ {
				if one, two := many(t, b, from, to), many(t, then, from, to); !inside(two, one) {
					t.Fatalf("Many of %v, %d to %d: %v; then, of %v: %v", b, from, to, one, then, two)
				}
			}
		}
		one, _ := tally.Pays(b, 3)
		if two, _ := tally.Pays(then, 3); !inside(two, one) {
			t.Fatalf("Pays of %v: %v; then, of %v: %v", b, one, then, two)
		}
		for range 5 {
			other := anyTruth(r, b)
			c := rightly(r, b, other, 1)
			if fits(t, then, c) && !fits(t, b, c) {
				t.Fatalf("Fits of %v, %v: only then, of %v", b, c, then)
			}
			one, _ := tally.Can(b, other)
			if two, _ := tally.Can(then, other); two && !one {
				t.Fatalf("Can of %v, %v: only then, of %v", b, other, then)
			}
		}
	}
}

// P5.12: what cannot be true as it is cannot with one count more, either.
func TestStillFalse(t *testing.T) {
	r := rolls(14)
	for range 500 {
		b := wildDay(r)
		for n := range len(b.Counts) {
			if less := with(b, counts(b.Counts[:n]...)); isTrue(b) && !isTrue(less) {
				t.Fatalf("Right of %v, but not of %v", b, less)
			}
		}
	}
}

// P5.13: the book can be true without the counts that are told, and not without fewer, nor as many that come before.
func TestTheCountsThatMustBeFalse(t *testing.T) {
	r := rolls(15)
	for found := 0; found < 150; {
		b := wildDay(r)
		wrong, e := tally.Wrong(b)
		if e != api.OK {
			t.Fatalf("Wrong of %v: %d", b, e)
		}
		if len(wrong) == 0 && r.IntN(8) > 0 {
			continue
		}
		found++
		for set := range 1 << len(b.Counts) {
			var l []int
			left := with(b, counts())
			for n, c := range b.Counts {
				if set>>n&1 == 1 {
					l = append(l, n)
				} else {
					left.Counts = append(left.Counts, c)
				}
			}
			better := len(l) < len(wrong) || len(l) == len(wrong) && slices.Compare(l, wrong) < 0
			if right := isTrue(left); right && better || !right && slices.Equal(l, wrong) {
				t.Fatalf("Wrong of %v: %v; without %v Right is %v", b, wrong, l, right)
			}
		}
	}
}

// P5.7: those are told without all of whose counts the book can be true, and no others.
func TestWhoseCountsAreFalse(t *testing.T) {
	r := rolls(16)
	for range 500 {
		b := wildDay(r)
		whose, e := tally.Whose(b)
		for who := range 3 {
			left := clone(b)
			left.Counts = slices.DeleteFunc(left.Counts, func(c api.TallyCount) bool { return c.Who == who })
			if e != api.OK || isTrue(left) != slices.Contains(whose, who) {
				t.Fatalf("Whose of %v: %v, %d; without those of %d Right is %v", b, whose, e, who, isTrue(left))
			}
		}
	}
}

// worst returns how far apart both ends of the day still are, at the worst, once it is known how many crossed on a trip.
func worst(t *testing.T, b api.TallyBook, trip int) int {
	t.Helper()
	n := 0
	s := many(t, b, trip, trip)
	for crossed := s.Low; crossed <= s.High; crossed++ {
		n = max(n, apart(many(t, with(b, more(toll(trip, trip, crossed))), 0, b.Trips-1)))
	}
	return n
}

// fewerCounts leaves room for one count more.
func fewerCounts(r *rand.Rand) api.TallyBook {
	b, _ := anyBook(r)
	b.Counts = b.Counts[:min(len(b.Counts), api.TallyCounts-1)]
	return b
}

// P5.8: no trip is better than the one that is told, and none before it is as good.
func TestTheBestTripToCountAgain(t *testing.T) {
	r := rolls(17)
	for range 150 {
		b := fewerCounts(r)
		best, e := tally.Again(b)
		if sure := apart(many(t, b, 0, b.Trips-1)) == 0; sure != (e == api.ErrNone) || !sure && e != api.OK {
			t.Fatalf("Again of %v: %d, %d", b, best, e)
		}
		for trip := range b.Trips {
			if one, two := worst(t, b, best), worst(t, b, trip); e == api.OK && (two < one || two == one && trip < best) {
				t.Fatalf("Again of %v: %d, with which %d are left; but with %d: %d", b, best, one, trip, two)
			}
		}
	}
}

// backwards tells the trips of a book from the last one to the first one.
func backwards(b api.TallyBook) api.TallyBook {
	b = clone(b)
	for i := range b.Counts {
		b.Counts[i] = turned(b, b.Counts[i])
	}
	return b
}

func turned(b api.TallyBook, c api.TallyCount) api.TallyCount {
	c.From, c.To = b.Trips-1-c.To, b.Trips-1-c.From
	return c
}

// P5.14: the same is told of trips that are told backwards.
func TestBackwards(t *testing.T) {
	r := rolls(18)
	for range 500 {
		b := wildDay(r)
		back := backwards(b)
		same(t, b, "Right", is(tally.Right(back)), is(tally.Right(b)))
		same(t, b, "Wrong", list(tally.Wrong(back)), list(tally.Wrong(b)))
		same(t, b, "Whose", list(tally.Whose(back)), list(tally.Whose(b)))
		same(t, b, "Pays", span(tally.Pays(back, 9)), span(tally.Pays(b, 9)))
		for from := range b.Trips {
			for to := from; to < b.Trips; to++ {
				same(t, b, "Many", span(tally.Many(back, b.Trips-1-to, b.Trips-1-from)), span(tally.Many(b, from, to)))
			}
		}
		w := anyTruth(r, b)
		c := rightly(r, b, w, 2)
		same(t, b, "Fits", is(tally.Fits(back, turned(b, c))), is(tally.Fits(b, c)))
		can := is(tally.Can(b, w))
		slices.Reverse(w)
		same(t, b, "Can", is(tally.Can(back, w)), can)
	}
}

// P5.14: of trips that are told backwards another one may come first, but it is as good.
func TestAgainBackwards(t *testing.T) {
	r := rolls(19)
	for range 100 {
		b := fewerCounts(r)
		back := backwards(b)
		best, e := tally.Again(b)
		other, f := tally.Again(back)
		if e != f || e == api.OK && worst(t, b, best) != worst(t, back, other) {
			t.Fatalf("Again of %v: %d, %d; backwards: %d, %d", b, best, e, other, f)
		}
	}
}
