package table_test

import (
	"math"
	"math/rand/v2"
	"reflect"
	"slices"
	"testing"

	"prow/api"
	"prow/table"
)

// answers returns what all functions return, of all loads and hours, and of some timetables.
func answers(b api.TableBook) []answer {
	l := []answer{number(0, table.Check(b)), list(table.Best(b)), number(table.Last(b)), list(table.Never(b))}
	for load := range b.Ready {
		l = append(l, number(table.Soon(b, load)), number(table.Late(b, load)))
	}
	for _, loads := range lists(len(b.Ready)) {
		l = append(l, list(table.Hours(b, loads)))
		for hour := range b.Landing.Tides {
			l = append(l, is(table.Can(b, hour, loads)))
		}
	}
	r := rolls(99)
	for range 5 {
		l = append(l, is(table.Works(b, anyTable(r, b))))
	}
	return l
}

// P1: no argument makes a function panic, or never end.
func TestAnyArgument(t *testing.T) {
	odd := []int{math.MinInt, math.MinInt32, -1, 0, 1, 2, 3, 8, 63, 64, 200, math.MaxInt32, math.MaxInt}
	long := make([]int, 1<<16)
	for n := range long {
		long[n] = n
	}
	books := []api.TableBook{{}, example(), example(torn()), great(), example(ready(long...)), example(tides(make([]api.Span, 1<<16)...)), example(loads(make([]api.DeckLoad, 1<<16)...), ready(long...))}
	for _, n := range odd {
		books = append(books, example(takes(n)), example(turn(n)), example(ready(n, 0, 0, 0)), example(ready(0, 0, 0, n)), example(sink(n)), example(rule(n)), example(most(n)))
		for _, m := range odd {
			books = append(books, example(takes(n), turn(m)), example(ready(0, n, m, 0)), example(tides(to(n, m))), example(weighs(0, to(n, m)), stands(0, m)), example(sounds(sound(n, m, n))), example(reach(0, n, m)))
		}
	}
	for i, b := range books {
		valid := table.Check(b) == api.OK
		asked := func(what any, all map[string]api.Errno) {
			t.Helper()
			for name, e := range all {
				if e == notZero || valid == (e == api.ErrTable) {
					t.Errorf("%s of the book %d, %v: %d", name, i, what, e)
				}
			}
		}
		asked("all", tells(b))
		for _, n := range odd {
			asked(n, ofLoad(b, n))
			for _, l := range [][]int{nil, {n}, {0, n}, {n, n}, {n, 0, 0, 0}, {0, 0, 0, n}, slices.Repeat([]int{0}, 1<<10)} {
				asked(l, ofLoads(b, n, l))
				asked(l, ofTable(b, l))
			}
		}
		asked("many", ofLoads(b, 0, long))
		asked("many", ofTable(b, long))
	}
}

// P2: what was called before does not matter.
func TestSameAgain(t *testing.T) {
	r := rolls(2)
	var books []api.TableBook
	var first [][]answer
	for range 60 {
		b := wildBook(r)
		books, first = append(books, b), append(first, answers(b))
	}
	for i := range books {
		i = len(books) - 1 - i
		if !reflect.DeepEqual(answers(books[i]), first[i]) {
			t.Errorf("another answer of the book %d", i)
		}
	}
}

// R3
func TestNilAndEmpty(t *testing.T) {
	for i, b := range []api.TableBook{example(), deep(high(2), 0), example(loads(), ready()), example(tides()), {}} {
		nothing, empty := clone(b), clone(b)
		nothing.Landing.Sounds, empty.Landing.Sounds = nil, []api.LandingSound{}
		if len(b.Ready) == 0 {
			nothing.Ready, empty.Ready = nil, []int{}
			nothing.Deck.Loads, empty.Deck.Loads = nil, []api.DeckLoad{}
		}
		if len(b.Landing.Tides) == 0 {
			nothing.Landing.Tides, empty.Landing.Tides = nil, []api.Span{}
		}
		if !reflect.DeepEqual(answers(nothing), answers(empty)) {
			t.Errorf("nil and empty lists of the book %d differ", i)
		}
		for name, all := range map[string]func(l []int) answer{
			"Can":   func(l []int) answer { return is(table.Can(b, 1, l)) },
			"Hours": func(l []int) answer { return list(table.Hours(b, l)) },
			"Works": func(l []int) answer { return is(table.Works(b, l)) },
		} {
			if !reflect.DeepEqual(all(nil), all([]int{})) {
				t.Errorf("nil and empty lists differ in %s of the book %d", name, i)
			}
		}
	}
}

// P8.8 and R4: what lies behind an argument's end stays, too.
func TestArgumentsStay(t *testing.T) {
	spare := func(b api.TableBook) api.TableBook {
		b.Landing.Tides = append(b.Landing.Tides, just(77), just(77))[:len(b.Landing.Tides)]
		b.Landing.Sounds = append(b.Landing.Sounds, sound(7, 7, 7))[:len(b.Landing.Sounds)]
		b.Deck.Loads = append(b.Deck.Loads, load(just(77), 77))[:len(b.Deck.Loads)]
		b.Ready = append(b.Ready, 77, 77)[:len(b.Ready)]
		return b
	}
	all := func(b api.TableBook) api.TableBook {
		b.Landing.Tides, b.Landing.Sounds = b.Landing.Tides[:cap(b.Landing.Tides)], b.Landing.Sounds[:cap(b.Landing.Sounds)]
		b.Deck.Loads, b.Ready = b.Deck.Loads[:cap(b.Deck.Loads)], b.Ready[:cap(b.Ready)]
		return b
	}
	r := rolls(3)
	books := []api.TableBook{example(), example(light()), example(slow()), example(torn())}
	for range 60 {
		books = append(books, wildBook(r))
	}
	for i, b := range books {
		b = spare(clone(b))
		before := clone(all(b))
		answers(b)
		if !reflect.DeepEqual(all(b), before) {
			t.Errorf("the book %d was changed: %v, %v", i, before, all(b))
		}
	}
}

// P8.8 and R4: lists that are asked for stay, too.
func TestListsStay(t *testing.T) {
	b := example()
	for _, l := range append(lists(4), []int{1, 3, 3, 3}, []int{-1, -1, -1, -1}, []int{3, 1, 3, 3}, []int{0, 0, 0, 9}, []int{3, 2, 1}) {
		l = append(l, 77, 77)
		before := slices.Clone(l)
		part := l[:len(l)-2]
		ofLoads(b, 3, part)
		ofTable(b, part)
		if !slices.Equal(l, before) {
			t.Errorf("the list %v was changed: %v", before, l)
		}
	}
}

// P8.8 and R4
func TestResultsAreNew(t *testing.T) {
	for name, ask := range map[string]func() ([]int, api.Errno){
		"Best":  func() ([]int, api.Errno) { return table.Best(example()) },
		"Hours": func() ([]int, api.Errno) { return table.Hours(example(), []int{0}) },
		"Never": func() ([]int, api.Errno) { return table.Never(example(takes(3))) },
	} {
		first, _ := ask()
		want := slices.Clone(first)
		for i := range first {
			first[i] = 99
		}
		first = append(first, 99)
		if again, e := ask(); !slices.Equal(again, want) || len(want) == 0 || e != api.OK {
			t.Errorf("%s keeps its result: %v, %d", name, again, e)
		}
	}
	b := deep(high(3), 0, 1, 2)
	if l, _ := table.Best(b); &l[0] == &b.Ready[0] {
		t.Error("Best returns what it was given")
	}
}

// P8.8: nothing of an argument is kept, though it is changed afterwards.
func TestArgumentsAreNotKept(t *testing.T) {
	b := example()
	want := answers(b)
	b.Ready[2], b.Deck.Loads[0].Lanes, b.Landing.Tides[3] = 0, middle, just(12)
	if reflect.DeepEqual(answers(b), want) {
		t.Error("the answers are those of the book as it was")
	}
	if !reflect.DeepEqual(answers(example()), want) {
		t.Error("the answers are not those of the book as it was")
	}
}

// hours returns what Hours does.
func hours(t *testing.T, b api.TableBook, loads []int) []int {
	t.Helper()
	l, e := table.Hours(b, loads)
	if e != api.OK {
		t.Fatalf("Hours of %v, %v: %d", b, loads, e)
	}
	return l
}

func best(t *testing.T, b api.TableBook) []int {
	t.Helper()
	l, e := table.Best(b)
	if e != api.OK {
		t.Fatalf("Best of %v: %d", b, e)
	}
	return l
}

func works(t *testing.T, b api.TableBook, l []int) bool {
	t.Helper()
	works, e := table.Works(b, l)
	if e != api.OK {
		t.Fatalf("Works of %v, %v: %d", b, l, e)
	}
	return works
}

func isReady(b api.TableBook, hour int, loads []int) bool {
	return !slices.ContainsFunc(loads, func(load int) bool { return b.Ready[load] > hour })
}

// P8.9: in a truth.
func TestWhoeverCrossesLands(t *testing.T) {
	r := rolls(9)
	for found := 0; found < 1500; {
		b, w := anyBook(r)
		for _, loads := range lists(len(b.Ready)) {
			for _, hour := range hours(t, b, loads) {
				arrives := hour + b.Takes
				if arrives >= len(b.Landing.Tides) || !w.lands(b, 0, hour, loads) || !w.lands(b, 1, arrives, loads) || !isReady(b, hour, loads) {
					t.Fatalf("%v can cross in %d of %v, but not in %v", loads, hour, b, w)
				}
				if len(loads) > 0 {
					found++
				}
			}
		}
	}
}

// Loads that are ready, and can cross together, do not where the deck does not land in some truth: of books without soundings, at one end of what is known or the other.
func TestWhoeverLandsCrosses(t *testing.T) {
	r := rolls(19)
	for found := 0; found < 300; {
		b, _ := anyBook(r)
		b.Landing.Sounds = nil
		b.Deck = api.DeckBook{Loads: b.Deck.Loads, Rule: api.DeckRule, Most: api.DeckMost}
		for n := range b.Deck.Loads {
			b.Deck.Loads[n].Lanes = middle
		}
		low, high := ends(b, 0), ends(b, 1)
		for _, loads := range lists(len(b.Ready)) {
			for hour := range b.Landing.Tides {
				if arrives := hour + b.Takes; arrives < len(b.Landing.Tides) && isReady(b, hour, loads) {
					want := low.lands(b, 0, hour, loads) && low.lands(b, 1, arrives, loads) && high.lands(b, 0, hour, loads) && high.lands(b, 1, arrives, loads)
					same(t, b, "Can", is(table.Can(b, hour, loads)), is(want, api.OK))
					found++
				}
			}
		}
	}
}

// ends returns the truth with the lowest water, or the highest one, over the highest bottom, and with the heaviest loads in the deepest deck.
func ends(b api.TableBook, high int) truth {
	w := truth{empty: b.Landing.Empty.High, floors: [2]int{b.Landing.Shores[0].Floor.High, b.Landing.Shores[1].Floor.High}}
	for _, s := range b.Landing.Tides {
		w.heights = append(w.heights, [2]int{s.Low, s.High}[high])
	}
	for _, x := range b.Deck.Loads {
		w.weights = append(w.weights, x.Weight.High)
	}
	return w
}

// P8.10
func TestTheMostWagons(t *testing.T) {
	r := rolls(10)
	for found := 0; found < 60; {
		b, _ := bookOf(r, 1+r.IntN(4), 1+r.IntN(4))
		l := best(t, b)
		if crossing(l) == 0 && r.IntN(10) > 0 {
			continue
		}
		found++
		if !works(t, b, l) {
			t.Fatalf("Best of %v: %v does not work", b, l)
		}
		for _, other := range tables(b) {
			more := crossing(other) - crossing(l)
			last, before := slices.Max(other)-slices.Max(l), slices.Compare(other, l) < 0
			if (more > 0 || more == 0 && (last < 0 || last == 0 && before)) && works(t, b, other) {
				t.Fatalf("Best of %v: %v; but %v works", b, l, other)
			}
		}
	}
}

// P8.11: a load that never crosses has no soonest hour; one that has does cross in some timetable, and in none sooner.
func TestSoonOrNever(t *testing.T) {
	r := rolls(11)
	for range 60 {
		b, _ := bookOf(r, 1+r.IntN(4), 1+r.IntN(4))
		never, e := table.Never(b)
		first := make([]int, len(b.Ready)) // the first hour in some timetable that works
		for load := range first {
			first[load] = math.MaxInt
		}
		for _, l := range tables(b) {
			if !works(t, b, l) {
				continue
			}
			for load, hour := range l {
				if hour != api.TableStays {
					first[load] = min(first[load], hour)
				}
			}
		}
		for load, hour := range first {
			soon, f := table.Soon(b, load)
			no := hour == math.MaxInt
			if e != api.OK || no != slices.Contains(never, load) || no && f != api.ErrNone || !no && (soon != hour || f != api.OK) {
				t.Fatalf("Soon of %v, %d: %d, %d; Never: %v, %d; first %d", b, load, soon, f, never, e, hour)
			}
		}
	}
}

// P8.11: all loads can cross just if there is a last departure, and the best timetable has it then.
func TestTheLastDeparture(t *testing.T) {
	r := rolls(12)
	for found := 0; found < 100; {
		b, _ := anyBook(r)
		l := best(t, b)
		last, e := table.Last(b)
		all := crossing(l) == len(l)
		if all != (e == api.OK) || !all && e != api.ErrNone || all && last != slices.Max(l) {
			t.Fatalf("Last of %v: %d, %d; the best one is %v", b, last, e, l)
		}
		if all {
			found++
		}
	}
}

// P8.12: if a load is ready sooner, or departures may follow each other sooner, no fewer cross.
func TestSooner(t *testing.T) {
	r := rolls(13)
	more := 0
	for range 1000 {
		b, _ := anyBook(r)
		count, load := crossing(best(t, b)), r.IntN(len(b.Ready))
		for _, sooner := range []api.TableBook{
			with(b, func(b *api.TableBook) { b.Ready[load] = r.IntN(b.Ready[load] + 1) }),
			with(b, func(b *api.TableBook) { b.Turn = 1 + r.IntN(b.Turn) }),
		} {
			n := crossing(best(t, sooner))
			if n < count {
				t.Fatalf("%d cross of %v; %d of %v", count, b, n, sooner)
			}
			more += n - count
		}
	}
	if more < 20 {
		t.Errorf("only %d more cross", more)
	}
}

// P8.12: with a load ready as late as is told as many cross; an hour later fewer do.
func TestLater(t *testing.T) {
	r := rolls(14)
	for found := 0; found < 100; {
		b, _ := anyBook(r)
		count := crossing(best(t, b))
		for load := range b.Ready {
			late, e := table.Late(b, load)
			then := func(hour int) int {
				return crossing(best(t, with(b, func(b *api.TableBook) { b.Ready[load] = hour })))
			}
			if e != api.OK || late < b.Ready[load] || then(late) != count {
				t.Fatalf("Late of %v, %d: %d, %d", b, load, late, e)
			}
			if late+1 < len(b.Landing.Tides) {
				found++
				if then(late+1) >= count {
					t.Fatalf("Late of %v, %d: %d; an hour later no fewer cross", b, load, late)
				}
			}
		}
	}
}

// shuffled tells of the same loads in another order, and of soundings, too; it returns where each load is told of then.
func shuffled(r *rand.Rand, b api.TableBook) (api.TableBook, []int) {
	o, at := clone(b), r.Perm(len(b.Ready))
	for load, n := range at {
		o.Deck.Loads[n], o.Ready[n] = b.Deck.Loads[load], b.Ready[load]
	}
	l := o.Landing.Sounds
	r.Shuffle(len(l), func(i, j int) { l[i], l[j] = l[j], l[i] })
	return o, at
}

// In which order loads are told matters to which timetable comes first alone.
func TestLoadsInAnotherOrder(t *testing.T) {
	r := rolls(15)
	for range 150 {
		b, _ := anyBook(r)
		o, at := shuffled(r, b)
		same(t, b, "Last", number(table.Last(b)), number(table.Last(o)))
		l, m := best(t, b), best(t, o)
		if crossing(l) != crossing(m) || slices.Max(l) != slices.Max(m) {
			t.Fatalf("Best of %v: %v; of %v: %v", b, l, o, m)
		}
		for load, n := range at {
			same(t, b, "Soon", number(table.Soon(b, load)), number(table.Soon(o, n)))
			same(t, b, "Late", number(table.Late(b, load)), number(table.Late(o, n)))
		}
	}
}
