package deck_test

import (
	"math"
	"reflect"
	"slices"
	"testing"

	"prow/api"
	"prow/deck"
)

// someStowages returns stowages of a book: of no loads, and of all loads, each in its first or its last lane.
func someStowages(b api.DeckBook) [][]api.DeckPlace {
	all := [][]api.DeckPlace{nil}
	var first, last []api.DeckPlace
	for n, x := range b.Loads {
		lanes := members(x.Lanes)
		first = append(first, api.DeckPlace{Load: n, Lane: lanes[0]})
		last = append(last, api.DeckPlace{Load: n, Lane: lanes[len(lanes)-1]})
	}
	for n := range b.Loads {
		all = append(all, first[:n+1], last[n:])
	}
	return all
}

// answers returns what all functions return, of some stowages and all loads.
func answers(b api.DeckBook) []answer {
	l := []answer{be(nil, deck.Check(b)), list(deck.Most(b)), list(deck.Fewest(b)), list(deck.Never(b)), number(deck.Weigh(b))}
	for _, on := range someStowages(b) {
		l = append(l, span(deck.List(b, on)), number(deck.Level(b, on)), number(deck.Tilts(b, on)))
	}
	for set := range 1 << min(len(b.Loads), api.DeckLoads) {
		l = append(l, places(deck.Stow(b, members(set))))
	}
	return l
}

// P1: no argument makes a function panic, or never end.
func TestAnyArgument(t *testing.T) {
	odd := []int{math.MinInt, math.MinInt32, -1, 0, 1, 2, 3, 4, 7, 30, 60, 200, math.MaxInt32, math.MaxInt}
	books := []api.DeckBook{great(), example(loads(slices.Repeat([]api.DeckLoad{load(just(1), port)}, 1<<16)...))}
	for _, n := range odd {
		books = append(books, example(rule(n)), example(most(n)), example(stands(0, n)), example(rule(n), most(n), stands(3, n)))
		for _, m := range odd {
			books = append(books, example(weighs(0, to(n, m))), api.DeckBook{Loads: []api.DeckLoad{load(to(n, m), n)}, Rule: m, Most: n})
		}
	}
	long := slices.Repeat(at(0, 0), 1<<16)
	for _, b := range books {
		valid := deck.Check(b) == api.OK
		for _, n := range odd {
			for _, all := range []map[string]api.Errno{asks(b, at(n, n)), asks(b, at(0, n)), asks(b, at(n, 0)), asks(b, at(0, 0, n, n)), asks(b, long), sets(b, []int{n}), sets(b, []int{n, n}), sets(b, []int{0, n})} {
				for name, e := range all {
					if e == notZero || !valid && e != api.ErrDeck || valid && e == api.ErrDeck {
						t.Errorf("%s of a book, and %d: %d", name, n, e)
					}
				}
			}
		}
	}
}

// P2: what was called before does not matter.
func TestSameAgain(t *testing.T) {
	r := rolls(12)
	var books []api.DeckBook
	var first [][]answer
	for range 40 {
		b := anyBook(r)
		books, first = append(books, b), append(first, answers(b))
	}
	for i := range books {
		i = len(books) - 1 - i
		if !reflect.DeepEqual(answers(books[i]), first[i]) {
			t.Errorf("another answer of the book %d", i)
		}
	}
}

// R3
func TestNilAndEmpty(t *testing.T) {
	for _, b := range []api.DeckBook{example(), example(rule(0), most(1))} {
		if !reflect.DeepEqual(asks(b, nil), asks(b, []api.DeckPlace{})) || !reflect.DeepEqual(sets(b, nil), sets(b, []int{})) {
			t.Error("nil and empty stowages or loads differ")
		}
	}
	nothing, none := example(), example()
	nothing.Loads, none.Loads = nil, []api.DeckLoad{}
	if !reflect.DeepEqual(answers(nothing), answers(none)) {
		t.Error("nil and empty loads of a book differ")
	}
}

// P3.9 and R4: what lies behind an argument's end stays, too.
func TestArgumentsStay(t *testing.T) {
	r := rolls(13)
	for i := range 40 {
		b := anyBook(r)
		b.Loads = append(b.Loads, load(just(77), 7), load(just(77), 7))[:len(b.Loads)]
		before := slices.Clone(b.Loads[:cap(b.Loads)])
		answers(b)
		if !slices.Equal(b.Loads[:cap(b.Loads)], before) {
			t.Errorf("the book %d was changed: %v, %v", i, before, b.Loads[:cap(b.Loads)])
		}
		on := anyStowage(r, b)
		on = append(on, at(7, 7, 7, 7)...)[:len(on)]
		whole := slices.Clone(on[:cap(on)])
		asks(b, on)
		if !slices.Equal(on[:cap(on)], whole) {
			t.Errorf("the stowage %d was changed: %v, %v", i, whole, on[:cap(on)])
		}
		l := members(r.IntN(1 << len(b.Loads)))
		l = append(l, 7, 7)[:len(l)]
		all := slices.Clone(l[:cap(l)])
		deck.Stow(b, l)
		if !slices.Equal(l[:cap(l)], all) {
			t.Errorf("the loads %d were changed: %v, %v", i, all, l[:cap(l)])
		}
	}
}

// P3.9 and R4
func TestResultsAreNew(t *testing.T) {
	b, hopeless := example(), example(rule(0))
	for name, ask := range map[string]func() ([]int, api.Errno){
		"Most":   func() ([]int, api.Errno) { return deck.Most(b) },
		"Fewest": func() ([]int, api.Errno) { return deck.Fewest(b) },
		"Never":  func() ([]int, api.Errno) { return deck.Never(hopeless) },
	} {
		one, _ := ask()
		want := slices.Clone(one)
		for i := range one {
			one[i] = 99
		}
		one = append(one, 99)
		if two, _ := ask(); !slices.Equal(two, want) || len(want) == 0 {
			t.Errorf("%s keeps its result: %v", name, two)
		}
	}
	loads := []int{0, 1, 2}
	one, _ := deck.Stow(b, loads)
	want := slices.Clone(one)
	for i := range one {
		one[i] = api.DeckPlace{Load: 9, Lane: 9}
	}
	if two, _ := deck.Stow(b, loads); !slices.Equal(two, want) || len(want) != 3 || !slices.Equal(loads, []int{0, 1, 2}) {
		t.Errorf("Stow keeps its result: %v", two)
	}
}

// P3.9: nothing of an argument is kept, though it is changed afterwards.
func TestArgumentsAreNotKept(t *testing.T) {
	b := example()
	want := answers(b)
	b.Loads[0] = load(just(1), middle)
	if reflect.DeepEqual(answers(b), want) {
		t.Error("the answers are those of the book as it was")
	}
	if !reflect.DeepEqual(answers(example()), want) {
		t.Error("the answers are not those of the book as it was")
	}
}

// canCross reports whether some loads can cross together, and holds the stowage that is told against what loads truly weigh.
func canCross(t *testing.T, b api.DeckBook, loads []int, weights ...[]int) bool {
	t.Helper()
	on, e := deck.Stow(b, loads)
	if e != api.OK {
		return false
	}
	told := []int{}
	for _, p := range on {
		told = append(told, p.Load)
	}
	if slices.Sort(told); !slices.Equal(told, loads) {
		t.Fatalf("Stow of %v, %v: %v", b, loads, on)
	}
	if !isSure(b, weights, on) {
		t.Fatalf("Stow of %v, %v: %v, but loads weigh %v", b, loads, on, weights)
	}
	if n, e := deck.Tilts(b, on); n != 0 || e != api.ErrNone {
		t.Fatalf("Tilts of %v, %v: %d, %d", b, on, n, e)
	}
	return true
}

// P3.10: whatever loads truly weigh.
func TestTheDeckDoesNotList(t *testing.T) {
	r := rolls(20)
	for i := range 400 {
		b := anyBook(r)
		if i%4 == 0 {
			b = fullBook(r)
		}
		w := anyTruth(r, b)
		on := anyStowage(r, b)
		s, _ := deck.List(b, on)
		level, _ := deck.Level(b, on)
		if n := listIn(w, on); n < s.Low || s.High < n || level == 2 && !levelIn(b, w, on) || level == 0 && levelIn(b, w, on) {
			t.Fatalf("List and Level of %v, %v: %v, %d; but it lists by %d", b, on, s, level, n)
		}
		for set := range 1 << len(b.Loads) {
			canCross(t, b, members(set), w)
		}
		if most := deckMost(t, b); !canCross(t, b, most, w) {
			t.Fatalf("Most of %v: %v", b, most)
		}
		fewest, e := deck.Fewest(b)
		if e == api.ErrNone {
			continue
		}
		for _, set := range groups(fewest) {
			if !canCross(t, b, members(set), w) {
				t.Fatalf("Fewest of %v: %v", b, fewest)
			}
		}
	}
}

// P3.11: both ends of the list are so in a truth.
func TestBothEnds(t *testing.T) {
	r := rolls(21)
	for range 300 {
		b := anyBook(r)
		on := anyStowage(r, b)
		s, e := deck.List(b, on)
		low, high := false, false
		for _, w := range truths(b) {
			low, high = low || listIn(w, on) == s.Low, high || listIn(w, on) == s.High
		}
		if !low || !high || e != api.OK {
			t.Fatalf("List of %v, %v: %v, %d", b, on, s, e)
		}
	}
}

// mirrored returns the book with port and starboard changed.
func mirrored(b api.DeckBook) api.DeckBook {
	b = clone(b)
	for i, x := range b.Loads {
		b.Loads[i].Lanes = x.Lanes&middle | x.Lanes&port*star | x.Lanes&star/star
	}
	return b
}

// across returns a stowage with port and starboard changed.
func across(on []api.DeckPlace) []api.DeckPlace {
	on = slices.Clone(on)
	for i := range on {
		on[i].Lane = api.DeckStar - on[i].Lane
	}
	return on
}

// P3.11: if port and starboard are changed.
func TestPortAndStarboard(t *testing.T) {
	r := rolls(22)
	for i := range 200 {
		b := anyBook(r)
		if i%5 == 0 {
			b = fullBook(r)
		}
		m := mirrored(b)
		for range 5 {
			on := anyStowage(r, b)
			s, e := deck.List(b, on)
			same(t, m, "List", span(deck.List(m, across(on))), span(to(-s.High, -s.Low), e))
			same(t, m, "Level", number(deck.Level(m, across(on))), number(deck.Level(b, on)))
			same(t, m, "Tilts", number(deck.Tilts(m, across(on))), number(deck.Tilts(b, on)))
		}
		for set := range 1 << len(b.Loads) {
			if one, two := canCross(t, b, members(set)), canCross(t, m, members(set)); one != two {
				t.Fatalf("Stow of %v, %v, and of port and starboard changed: %v, %v", b, members(set), one, two)
			}
		}
		same(t, m, "Most", list(deck.Most(m)), list(deck.Most(b)))
		same(t, m, "Fewest", list(deck.Fewest(m)), list(deck.Fewest(b)))
		same(t, m, "Never", list(deck.Never(m)), list(deck.Never(b)))
		same(t, m, "Weigh", number(deck.Weigh(m)), number(deck.Weigh(b)))
	}
}

// P3.12: in fewer crossings loads cannot all cross, nor otherwise with a list that comes before.
func TestTheFewestCrossings(t *testing.T) {
	r := rolls(23)
	for i := range 200 {
		b := anyBook(r)
		if i%5 == 0 {
			b = fullBook(r)
		}
		can := make([]bool, 1<<len(b.Loads))
		for set := range can {
			can[set] = canCross(t, b, members(set))
		}
		same(t, b, "Fewest", list(deck.Fewest(b)), fewestOf(can, len(b.Loads)))
	}
}

// P3.13: all that could cross together still can.
func TestStillCross(t *testing.T) {
	r := rolls(24)
	for i := range 200 {
		b := anyBook(r)
		if i%5 == 0 {
			b = fullBook(r)
		}
		n := r.IntN(len(b.Loads))
		for what, more := range map[string]api.DeckBook{
			"with a greater rule":    with(b, rule(min(api.DeckRule, b.Rule+1+r.IntN(3)))),
			"if more is carried":     with(b, most(min(api.DeckMost, b.Most+1+r.IntN(9)))),
			"once a load is weighed": with(b, weighs(n, just(pick(r, b.Loads[n].Weight)))),
		} {
			for set := range 1 << len(b.Loads) {
				if l := members(set); canCross(t, b, l) && !canCross(t, more, l) {
					t.Fatalf("%v of %v can cross together, but not %s: %v", l, b, what, more)
				}
			}
			if one, two := deckMost(t, b), deckMost(t, more); len(two) < len(one) {
				t.Fatalf("Most of %v: %v; %s: %v", b, one, what, two)
			}
		}
	}
}

// P3.14: a load that never crosses is in no crossing.
func TestNeverCross(t *testing.T) {
	r := rolls(25)
	some := 0
	for i := range 300 {
		b := anyBook(r)
		if i%5 == 0 {
			b = fullBook(r)
		}
		never, e := deck.Never(b)
		if e != api.OK {
			t.Fatalf("Never of %v: %d", b, e)
		}
		in := func(l []int) bool {
			return slices.ContainsFunc(l, func(n int) bool { return slices.Contains(never, n) })
		}
		for set := range 1 << len(b.Loads) {
			if l := members(set); in(l) && canCross(t, b, l) {
				t.Fatalf("Never of %v: %v, but %v can cross together", b, never, l)
			}
		}
		if l := deckMost(t, b); in(l) {
			t.Fatalf("Never of %v: %v, but Most %v", b, never, l)
		}
		if len(never) > 0 {
			some++
			if l, e := deck.Fewest(b); len(l) > 0 || e != api.ErrNone {
				t.Fatalf("Never of %v: %v, but Fewest %v, %d", b, never, l, e)
			}
		}
	}
	if some < 50 || some > 250 {
		t.Errorf("%d of 300 books have loads that never cross", some)
	}
}
