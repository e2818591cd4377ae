package fairway_test

import (
	"math"
	"reflect"
	"slices"
	"testing"

	"prow/api"
	"prow/fairway"
)

// someMinutes are asked for where not all are.
func someMinutes() []int {
	l := []int{0, 1, 2, 3, 30, 60, 61, 80, 94, 150, api.FairwayEnd}
	for minute := 4; minute < 60; minute += 5 {
		l = append(l, minute)
	}
	return l
}

// answers returns what all functions return, of all ships and some minutes.
func answers(b api.FairwayBook) []answer {
	right, e := fairway.Right(b)
	l := []answer{be(nil, fairway.Check(b)), be(right, e), span(fairway.Hear(b)), list(fairway.Free(b)), list(fairway.Wrong(b))}
	for _, minute := range someMinutes() {
		l = append(l, number(fairway.Clear(b, minute)), number(fairway.May(b, minute)), number(fairway.Next(b, minute)))
	}
	for ship := range b.Ships {
		l = append(l, span(fairway.When(b, ship)))
		for _, minute := range someMinutes() {
			l = append(l, number(fairway.Near(b, ship, minute)))
		}
	}
	return l
}

// P1: no argument makes a function panic, or never end.
func TestAnyArgument(t *testing.T) {
	odd := []int{math.MinInt, math.MinInt32, -1, 0, 1, 2, 60, 120, 200, math.MaxInt32, math.MaxInt}
	books := []api.FairwayBook{great(), example(ships(slices.Repeat([]api.FairwayShip{ship(0, just(1), just(1))}, 1<<16)...)), example(sights(slices.Repeat([]api.FairwaySight{sight(0, 0, just(20))}, 1<<16)...))}
	for _, n := range odd {
		books = append(books,
			example(breadth(n)), example(cross(n)), example(slack(n)), example(cross(n), slack(n)), example(sounds(0, n)), example(sights(sight(n, 9, just(20)))), example(sights(sight(1, n, just(20)))), example(sights(sight(n, n, just(20)))))
		for _, m := range odd {
			books = append(books, example(hear(to(n, m))), example(away(0, to(n, m))), example(speed(1, to(n, m))), example(sights(sight(1, 9, to(n, m)))),
				api.FairwayBook{Ships: []api.FairwayShip{ship(n, to(m, n), to(n, m))}, Hear: to(n, m), Breadth: m, Cross: n, Slack: m})
		}
	}
	for _, b := range books {
		valid := fairway.Check(b) == api.OK
		for _, n := range odd {
			for name, e := range asks(b, n, n) {
				if e == notZero || valid == (e == api.ErrFairway) || valid && n < 0 && e != api.ErrFairwayAsk {
					t.Errorf("%s of a book, %d: %d", name, n, e)
				}
			}
		}
		for name, e := range tells(b) {
			if e == notZero || valid == (e == api.ErrFairway) {
				t.Errorf("%s of a book: %d", name, e)
			}
		}
		fairway.Right(b)
		fairway.Wrong(b)
	}
}

// P2: what was called before does not matter.
func TestSameAgain(t *testing.T) {
	r := rolls(3)
	var books []api.FairwayBook
	var first [][]answer
	for range 30 {
		b := wildBook(r)
		books, first = append(books, b), append(first, answers(b))
	}
	for i := range books {
		i = len(books) - 1 - i
		if !reflect.DeepEqual(answers(books[i]), first[i]) {
			t.Errorf("another answer of the book %d", i)
		}
	}
}

// R3
func TestNilAndEmpty(t *testing.T) {
	for _, changes := range [][]change{nil, {ships()}, {ships(), cross(0)}} {
		nothing, none := example(changes...), example(changes...)
		nothing.Sights, none.Sights = nil, []api.FairwaySight{}
		if !reflect.DeepEqual(answers(nothing), answers(none)) {
			t.Error("nil and empty sightings differ")
		}
		nothing.Ships, none.Ships = nil, []api.FairwayShip{}
		if !reflect.DeepEqual(answers(nothing), answers(none)) {
			t.Error("nil and empty ships differ")
		}
	}
}

// P4.9 and R4: what lies behind an argument's end stays, too.
func TestArgumentsStay(t *testing.T) {
	spare := func(b api.FairwayBook) api.FairwayBook {
		b.Ships = append(b.Ships, ship(7, just(77), just(7)), ship(7, just(77), just(7)))[:len(b.Ships)]
		b.Sights = append(b.Sights, sight(7, 7, just(77)), sight(7, 7, just(77)))[:len(b.Sights)]
		return b
	}
	all := func(b api.FairwayBook) api.FairwayBook {
		b.Ships, b.Sights = b.Ships[:cap(b.Ships)], b.Sights[:cap(b.Sights)]
		return b
	}
	r := rolls(4)
	books := []api.FairwayBook{example(), example(sighted()), example(torn()), example(mute()), lone()}
	for range 30 {
		books = append(books, wildBook(r))
	}
	for i, b := range books {
		b = spare(clone(b))
		before := clone(all(b))
		answers(b)
		if !reflect.DeepEqual(all(b), before) {
			t.Errorf("the book %d was changed: %v, %v", i, before, all(b))
		}
	}
}

// P4.9 and R4
func TestResultsAreNew(t *testing.T) {
	calm, torn := lone(), example(torn())
	for name, ask := range map[string]func() ([]int, api.Errno){
		"Free":  func() ([]int, api.Errno) { return fairway.Free(calm) },
		"Wrong": func() ([]int, api.Errno) { return fairway.Wrong(torn) },
	} {
		one, _ := ask()
		want := slices.Clone(one)
		for i := range one {
			one[i] = 99
		}
		one = append(one, 99)
		if two, _ := ask(); !slices.Equal(two, want) || len(want) == 0 {
			t.Errorf("%s keeps its result: %v", name, two)
		}
	}
}

// P4.9: nothing of an argument is kept, though it is changed afterwards.
func TestArgumentsAreNotKept(t *testing.T) {
	b := example(sighted())
	want := answers(b)
	b.Sights[0].Away, b.Ships[0].Away = just(18), just(30)
	if reflect.DeepEqual(answers(b), want) {
		t.Error("the answers are those of the book as it was")
	}
	if !reflect.DeepEqual(answers(example(sighted())), want) {
		t.Error("the answers are not those of the book as it was")
	}
}

func has(s api.Span, n int) bool { return s.Low <= n && n <= s.High }

func inside(a, b api.Span) bool { return b.Low <= a.Low && a.High <= b.High }

// numberOf returns the number that an answer tells.
func numberOf(t *testing.T, b api.FairwayBook, a answer) int {
	t.Helper()
	if a.e != api.OK {
		t.Fatalf("an error of %v: %d", b, a.e)
	}
	return a.value.(int)
}

func heard(t *testing.T, b api.FairwayBook) api.Span {
	t.Helper()
	s, e := fairway.Hear(b)
	if e != api.OK {
		t.Fatalf("Hear of %v: %d", b, e)
	}
	return s
}

func nearAt(t *testing.T, b api.FairwayBook, ship, minute int) int {
	t.Helper()
	return numberOf(t, b, number(fairway.Near(b, ship, minute)))
}

// anyNear returns the most that is told of ships in a minute.
func anyNear(t *testing.T, b api.FairwayBook, minute int) int {
	t.Helper()
	most := 0
	for ship := range b.Ships {
		most = max(most, nearAt(t, b, ship, minute))
	}
	return most
}

func clearAt(t *testing.T, b api.FairwayBook, begin int) int {
	t.Helper()
	return numberOf(t, b, number(fairway.Clear(b, begin)))
}

func freeIn(t *testing.T, b api.FairwayBook) []int {
	t.Helper()
	l, e := fairway.Free(b)
	if e != api.OK {
		t.Fatalf("Free of %v: %d", b, e)
	}
	return l
}

// P4.10: whatever is truly so, and rightly sighted.
func TestClearOfEachShip(t *testing.T) {
	r := rolls(10)
	for i := range 300 {
		b, w := anyOrFull(r)
		if is, e := fairway.Right(b); !is || e != api.OK {
			t.Fatalf("Right of %v: %v, %d", b, is, e)
		}
		if l, e := fairway.Wrong(b); len(l) > 0 || e != api.OK {
			t.Fatalf("Wrong of %v: %v, %d", b, l, e)
		}
		if s := heard(t, b); !has(s, w.hear) {
			t.Fatalf("Hear of %v: %v, but it is %d", b, s, w.hear)
		}
		for ship := range b.Ships {
			when, _ := fairway.When(b, ship)
			for minute := range api.FairwayEnd + 1 {
				truly := nearIn(b, w, ship, minute)
				if truly && !has(when, minute) {
					t.Fatalf("When of %v, %d: %v, but it is near in %d", b, ship, when, minute)
				}
				if i%20 > 0 {
					continue
				}
				if n := nearAt(t, b, ship, minute); n == 2 && !truly || n == 0 && truly {
					t.Fatalf("Near of %v, %d, %d: %d, but it is %v", b, ship, minute, n, truly)
				}
			}
		}
		near, free := busy(b, w), freeIn(t, b)
		for begin := range api.FairwayLast + 1 {
			n, truly := clearAt(t, b, begin), clearIn(b, near, begin)
			if n == 2 && !truly || n == 0 && truly || slices.Contains(free, begin) != (n == 2) {
				t.Fatalf("Clear of %v, %d: %d, but it is %v; free are %v", b, begin, n, truly, free)
			}
		}
	}
}

// P4.11: before the minute that is told no ship is near, in it one may be.
func TestTheMinuteFromWhichItMayNotBe(t *testing.T) {
	r := rolls(11)
	for range 120 {
		b, w := anyOrFull(r)
		near := busy(b, w)
		for begin := r.IntN(8); begin <= api.FairwayLast; begin += 8 {
			until := begin + b.Cross + b.Slack
			may, e := fairway.May(b, begin)
			sure := clearAt(t, b, begin) == 2
			if sure != (e == api.ErrNone) || !sure && (may < begin || until <= may || anyNear(t, b, may) == 0) {
				t.Fatalf("May of %v, %d: %d, %d", b, begin, may, e)
			}
			if !sure {
				until = may
			}
			for minute := begin; minute < until; minute++ {
				if near[minute] || anyNear(t, b, minute) > 0 {
					t.Fatalf("May of %v, %d: %d, %d; but one may be near in the minute %d", b, begin, may, e, minute)
				}
			}
		}
	}
}

// stillKnown checks that of a book of which more is known all is told that was sure of another one.
func stillKnown(t *testing.T, before, after api.FairwayBook) {
	t.Helper()
	if one, two := heard(t, before), heard(t, after); !inside(two, one) {
		t.Fatalf("Hear of %v: %v; then, of %v: %v", before, one, after, two)
	}
	for begin := range api.FairwayLast + 1 {
		if one, two := clearAt(t, before, begin), clearAt(t, after, begin); one != 1 && one != two {
			t.Fatalf("Clear of %v, %d: %d; then, of %v: %d", before, begin, one, after, two)
		}
	}
	for ship := range before.Ships {
		one, e := fairway.When(before, ship)
		two, f := fairway.When(after, ship)
		if f == api.OK && (e != api.OK || !inside(two, one)) {
			t.Fatalf("When of %v, %d: %v, %d; then, of %v: %v", before, ship, one, e, after, two)
		}
		for _, minute := range []int{one.Low - 1, one.Low, one.Low + 1, one.High, one.High + 1} {
			if minute < 0 || e != api.OK {
				continue
			}
			if one, two := nearAt(t, before, ship, minute), nearAt(t, after, ship, minute); one != 1 && one != two {
				t.Fatalf("Near of %v, %d, %d: %d; then, of %v: %d", before, ship, minute, one, after, two)
			}
		}
	}
}

// P4.12: with a sighting more what was sure still is.
func TestOneSightingMore(t *testing.T) {
	r := rolls(12)
	for found := 0; found < 150; {
		b, w := anyOrFull(r)
		more := clone(b)
		more.Sights = append(more.Sights, rightly(r, b, w)...)
		if n := len(more.Sights); n == len(b.Sights) || n > api.FairwaySights {
			continue
		}
		found++
		stillKnown(t, b, more)
	}
}

// P4.12: with less fog it is known better how far a sound is heard.
func TestLessFog(t *testing.T) {
	r := rolls(13)
	for range 150 {
		b, w := anyOrFull(r)
		stillKnown(t, b, with(b, hear(to(pick(r, to(b.Hear.Low, w.hear)), pick(r, to(w.hear, b.Hear.High))))))
	}
}

// P4.12: if all ships were heard, wherever they were, it does not matter how much farther a sound is heard.
func TestHeardFromFarther(t *testing.T) {
	r := rolls(14)
	for range 100 {
		b, _ := anyBook(r)
		far := 1
		for _, x := range b.Ships {
			far = max(far, x.Away.High)
		}
		one, two := with(b, hear(just(far))), with(b, hear(between(r, far, api.FairwayFar, api.FairwayFog)))
		for begin := range api.FairwayLast + 1 {
			same(t, two, "Clear", number(fairway.Clear(two, begin)), number(fairway.Clear(one, begin)))
		}
		for ship := range b.Ships {
			same(t, two, "When", span(fairway.When(two, ship)), span(fairway.When(one, ship)))
		}
		same(t, two, "Hear", span(fairway.Hear(two)), span(two.Hear, api.OK))
	}
}

// P4.13: nothing that was clear is not.
func TestStillClear(t *testing.T) {
	r := rolls(15)
	for range 150 {
		b, _ := anyOrFull(r)
		changed := map[string]api.FairwayBook{
			"with a shorter crossing":         with(b, cross(pick(r, to(1, b.Cross)))),
			"if the chain goes slack sooner":  with(b, slack(pick(r, to(0, b.Slack)))),
			"with a lesser breadth":           with(b, breadth(pick(r, to(0, b.Breadth)))),
			"if the chain is slack at once":   with(b, slack(0)),
			"with a breadth of one cable":     with(b, breadth(min(1, b.Breadth))),
			"with the shortest crossing":      with(b, cross(1)),
			"with the shortest, and no slack": with(b, cross(1), slack(0)),
		}
		if n := len(b.Ships); n > 0 {
			changed["with a ship less"] = with(b, gone(r.IntN(n)))
		}
		for what, more := range changed {
			for begin := range api.FairwayLast + 1 {
				if one, two := clearAt(t, b, begin), clearAt(t, more, begin); two < one {
					t.Fatalf("Clear of %v, %d: %d; %s: %d", b, begin, one, what, two)
				}
			}
			one, e := fairway.Next(b, 0)
			if two, f := fairway.Next(more, 0); e == api.OK && (f != api.OK || two > one) {
				t.Fatalf("Next of %v: %d; %s: %d, %d", b, one, what, two, f)
			}
		}
	}
}

// P4.14: the book can be true without the sightings that are told, and not without fewer, nor as many that come before.
func TestTheSightingsThatMustBeWrong(t *testing.T) {
	r := rolls(16)
	for found := 0; found < 200; {
		b := wildBook(r)
		told, e := fairway.Wrong(b)
		if len(told) == 0 && r.IntN(4) > 0 {
			continue
		}
		found++
		never := e == api.ErrFairwayFalse
		if e != api.OK && !never {
			t.Fatalf("Wrong of %v: %d", b, e)
		}
		for set := range 1 << len(b.Sights) {
			var l []int
			left := clone(b)
			left.Sights = nil
			for i, s := range b.Sights {
				if set>>i&1 == 1 {
					l = append(l, i)
				} else {
					left.Sights = append(left.Sights, s)
				}
			}
			better := never || len(l) < len(told) || len(l) == len(told) && slices.Compare(l, told) < 0
			if is, _ := fairway.Right(left); is && better || !is && !never && slices.Equal(l, told) {
				t.Fatalf("Wrong of %v: %v, %d; without %v Right is %v", b, told, e, l, is)
			}
		}
	}
}
