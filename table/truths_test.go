package table_test

import (
	"reflect"
	"slices"
	"testing"

	"prow/api"
	"prow/deck"
	"prow/landing"
	"prow/table"
)

// All functions (P8.1 to P8.7) are held here against the definitions, with all sets of loads, and all timetables one by one.

// answer is all that a function returns.
type answer struct {
	value any
	e     api.Errno
}

func is(yes bool, e api.Errno) answer { return answer{yes, e} }

func number(n int, e api.Errno) answer { return answer{n, e} }

// list makes no difference between a nil list and an empty one.
func list(l []int, e api.Errno) answer { return answer{append([]int{}, l...), e} }

func none() answer { return number(0, api.ErrNone) }

func same(t *testing.T, b api.TableBook, what string, got, want answer) {
	t.Helper()
	if !reflect.DeepEqual(got, want) {
		t.Fatalf("%s of %v: %v, not %v", what, b, got, want)
	}
}

// can tells whether loads can cross in an hour.
func can(b api.TableBook, hour int, loads []int) bool {
	weight := 0
	for _, load := range loads {
		weight += b.Deck.Loads[load].Weight.High
		if hour < b.Ready[load] {
			return false
		}
	}
	arrives := hour + b.Takes
	if _, e := deck.Stow(b.Deck, loads); e != api.OK || arrives >= len(b.Landing.Tides) || weight > api.LandingLoad {
		return false
	}
	here, _ := landing.Lands(b.Landing, 0, hour, weight)
	there, _ := landing.Lands(b.Landing, 1, arrives, weight)
	return here == 2 && there == 2
}

// of returns all loads that have this hour in a timetable.
func of(table []int, hour int) []int {
	var l []int
	for load, its := range table {
		if its == hour {
			l = append(l, load)
		}
	}
	return l
}

func crossing(table []int) int { return len(table) - len(of(table, api.TableStays)) }

// seen is a book, and which sets of loads can cross in each hour.
type seen struct {
	api.TableBook
	can []map[int]bool
}

func setOf(loads []int) int {
	set := 0
	for _, load := range loads {
		set += 1 << load
	}
	return set
}

func see(b api.TableBook) seen {
	s := seen{TableBook: b}
	for hour := range b.Landing.Tides {
		s.can = append(s.can, map[int]bool{})
		for _, loads := range lists(len(b.Ready)) {
			s.can[hour][setOf(loads)] = can(b, hour, loads)
		}
	}
	return s
}

func (s seen) works(table []int) bool {
	before := -1 // the departure before
	for hour := range s.Landing.Tides {
		loads := of(table, hour)
		if len(loads) == 0 {
			continue
		}
		if !s.can[hour][setOf(loads)] || before >= 0 && hour < before+s.Turn {
			return false
		}
		before = hour
	}
	return true
}

// working returns all timetables that work.
func (s seen) working() [][]int {
	return slices.DeleteFunc(tables(s.TableBook), func(table []int) bool { return !s.works(table) })
}

func (s seen) best() []int {
	var best []int
	for _, table := range s.working() { // the first one first
		more := crossing(table) - crossing(best)
		if best == nil || more > 0 || more == 0 && slices.Max(table) < slices.Max(best) {
			best = table
		}
	}
	return best
}

func (s seen) soon(load int) answer {
	for hour, can := range s.can {
		for _, loads := range lists(len(s.Ready)) {
			if slices.Contains(loads, load) && can[setOf(loads)] {
				return number(hour, api.OK)
			}
		}
	}
	return none()
}

func (s seen) last() answer {
	last := none()
	for _, table := range s.working() {
		hour := slices.Max(table)
		if crossing(table) == len(table) && (last == none() || hour < last.value.(int)) {
			last = number(hour, api.OK)
		}
	}
	return last
}

func (s seen) late(load int) answer {
	late, count := -1, crossing(s.best())
	for hour := range s.Landing.Tides {
		then := with(s.TableBook, func(b *api.TableBook) { b.Ready[load] = hour })
		if crossing(see(then).best()) == count {
			late = hour
		}
	}
	return number(late, api.OK)
}

func (s seen) never() answer {
	working := s.working()
	var l []int
	for load := range s.Ready {
		if !slices.ContainsFunc(working, func(table []int) bool { return table[load] != api.TableStays }) {
			l = append(l, load)
		}
	}
	return list(l, api.OK)
}

// sameOfLoads holds what is told of loads against the definitions.
func sameOfLoads(t *testing.T, s seen) {
	t.Helper()
	b := s.TableBook
	for _, loads := range lists(len(b.Ready)) {
		var hours []int
		for hour, can := range s.can {
			same(t, b, "Can", is(table.Can(b, hour, loads)), is(can[setOf(loads)], api.OK))
			if can[setOf(loads)] {
				hours = append(hours, hour)
			}
		}
		same(t, b, "Hours", list(table.Hours(b, loads)), list(hours, api.OK))
	}
	for load := range b.Ready {
		same(t, b, "Soon", number(table.Soon(b, load)), s.soon(load))
		same(t, b, "Late", number(table.Late(b, load)), s.late(load))
	}
}

func TestTableByTable(t *testing.T) {
	r := rolls(1)
	count := map[string]int{}
	for range 400 {
		b := wildBook(r)
		if right, _ := landing.Right(b.Landing); !right {
			count["false"]++
			same(t, b, "Best", list(table.Best(b)), list(nil, api.ErrTableFalse))
			continue
		}
		s := see(b)
		sameOfLoads(t, s)
		for range 20 {
			l := anyTable(r, b)
			same(t, b, "Works", is(table.Works(b, l)), is(s.works(l), api.OK))
		}
		best, last, never := s.best(), s.last(), s.never()
		same(t, b, "Best", list(table.Best(b)), list(best, api.OK))
		same(t, b, "Last", number(table.Last(b)), last)
		same(t, b, "Never", list(table.Never(b)), never)
		if crossing(best) > 0 && slices.Max(best) != slices.Min(best) {
			count["some"]++
		}
		if last.e == api.OK {
			count["all"]++
		}
		if len(never.value.([]int)) > 0 {
			count["never"]++
		}
	}
	for _, what := range []string{"false", "some", "all", "never"} {
		if count[what] < 25 {
			t.Errorf("of 400 books only %d: %s", count[what], what)
		}
	}
}

// All timetables of a few books work just if they should.
func TestWorksOfAll(t *testing.T) {
	r := rolls(4)
	for range 40 {
		b, _ := anyBook(r)
		s := see(b)
		for _, l := range tables(b) {
			same(t, b, "Works", is(table.Works(b, l)), is(s.works(l), api.OK))
		}
	}
}

// Books of as many hours and loads as there can be.
func TestGreatBooks(t *testing.T) {
	r := rolls(5)
	for range 6 {
		b, _ := bookOf(r, api.TableHours, api.DeckLoads)
		s := see(b)
		same(t, b, "Best", list(table.Best(b)), list(s.best(), api.OK))
		same(t, b, "Last", number(table.Last(b)), s.last())
		same(t, b, "Never", list(table.Never(b)), s.never())
		load := r.IntN(api.DeckLoads)
		same(t, b, "Soon", number(table.Soon(b, load)), s.soon(load))
	}
}
