package deck_test

import (
	"slices"
	"testing"

	"prow/api"
	"prow/deck"
)

// P3.1: what is valid, up to each limit.
func TestValid(t *testing.T) {
	for i, b := range []api.DeckBook{
		example(), example(strict()), example(light()), example(wide()), great(),
		example(loads(load(just(1), port))), example(weighs(0, just(60))), example(weighs(0, just(1))), example(weighs(3, to(1, 5))), example(weighs(0, to(56, 60))),
		example(stands(0, port)), example(stands(0, middle)), example(stands(0, star)), example(stands(0, port|middle)), example(stands(0, middle|star)), example(stands(3, port|middle|star)),
		example(rule(0)), example(rule(30)), example(most(1)), example(most(200)),
	} {
		if e := deck.Check(b); e != api.OK {
			t.Errorf("Check of the valid book %d: %d", i, e)
		}
	}
}

// wrongBooks has a book beyond each limit.
func wrongBooks() []api.DeckBook {
	l := []api.DeckBook{
		{}, example(loads()), great(func(b *api.DeckBook) { b.Loads = append(b.Loads, b.Loads[0]) }),
		example(rule(-1)), example(rule(31)), example(most(0)), example(most(-1)), example(most(201)),
	}
	for load := range 4 {
		for _, s := range []api.Span{to(10, 15), to(5, 4), just(0), to(0, 2), just(61), to(58, 61), just(-1), to(1, 60)} {
			l = append(l, example(weighs(load, s)))
		}
		for _, lanes := range []int{0, -1, 8, 9} {
			l = append(l, example(stands(load, lanes)))
		}
	}
	return l
}

// notZero is told in place of an error if an error came with another result.
const notZero api.Errno = -1

func told(zero bool, e api.Errno) api.Errno {
	if e != api.OK && !zero {
		return notZero
	}
	return e
}

// asks returns the errors of all functions that are asked for a stowage.
func asks(b api.DeckBook, on []api.DeckPlace) map[string]api.Errno {
	all := map[string]api.Errno{}
	s, e := deck.List(b, on)
	all["List"] = told(s == api.Span{}, e)
	level, e := deck.Level(b, on)
	all["Level"] = told(level == 0, e)
	place, e := deck.Tilts(b, on)
	all["Tilts"] = told(place == 0, e)
	return all
}

// sets returns the errors of all functions that are asked for loads, or for none.
func sets(b api.DeckBook, loads []int) map[string]api.Errno {
	all := map[string]api.Errno{"Check": deck.Check(b)}
	on, e := deck.Stow(b, loads)
	all["Stow"] = told(len(on) == 0, e)
	most, e := deck.Most(b)
	all["Most"] = told(len(most) == 0, e)
	fewest, e := deck.Fewest(b)
	all["Fewest"] = told(len(fewest) == 0, e)
	never, e := deck.Never(b)
	all["Never"] = told(len(never) == 0, e)
	n, e := deck.Weigh(b)
	all["Weigh"] = told(n == 0, e)
	return all
}

// P3.1, R1 and R2: of a wrong book all functions tell first, and return nothing else.
func TestWrongBook(t *testing.T) {
	for i, b := range wrongBooks() {
		for _, all := range []map[string]api.Errno{asks(b, nil), asks(b, at(0, 0, 1, 2)), asks(b, at(9, 9)), sets(b, nil), sets(b, []int{0, 1}), sets(b, []int{-1})} {
			for name, e := range all {
				if e != api.ErrDeck {
					t.Errorf("%s of the wrong book %d: %d", name, i, e)
				}
			}
		}
	}
}

// P3.1 to P3.3, R2 and R8: what is no stowage.
func TestNoStowage(t *testing.T) {
	for i, on := range [][]api.DeckPlace{
		at(4, 0), at(-1, 0), at(0, 1), at(0, 3), at(2, -1), at(2, 3), at(3, 0), at(3, 2), at(9, 9),
		at(0, 0, 0, 2), at(0, 0, 0, 0), at(0, 0, 1, 2, 0, 0), at(0, 0, 1, 2, 2, 1, 3, 1, 4, 0), at(0, 0, 1, 2, 2, 1, 3, 1, 0, 0), at(0, 0, 1, 1), at(1, 1, 0, 0), at(0, 0, 4, 0, 1, 2),
	} {
		for _, b := range []api.DeckBook{example(), example(strict()), example(light())} {
			for name, e := range asks(b, on) {
				if e != api.ErrDeckAsk {
					t.Errorf("%s of %d: %d", name, i, e)
				}
			}
		}
	}
	if _, e := deck.List(example(wide()), at(4, 0)); e != api.OK {
		t.Errorf("List of a load that there is: %d", e)
	}
}

// P3.4: what are no loads.
func TestNoLoads(t *testing.T) {
	for i, l := range [][]int{{4}, {-1}, {1, 0}, {1, 1}, {0, 1, 1}, {0, 2, 1}, {0, 1, 2, 3, 4}, {-1, 0}, {3, 4}, {0, 0, 1}} {
		for _, b := range []api.DeckBook{example(), example(rule(0))} {
			if on, e := deck.Stow(b, l); len(on) > 0 || e != api.ErrDeckAsk {
				t.Errorf("Stow %d: %v, %d", i, on, e)
			}
		}
	}
}

// P3.1 to P3.3
func TestList(t *testing.T) {
	none := -1 // the deck tilts nowhere
	for i, x := range []struct {
		b            api.DeckBook
		on           []api.DeckPlace
		list         api.Span
		level, tilts int
	}{
		{example(), at(0, 0, 1, 2), to(-1, 2), 2, none}, {example(), at(0, 0, 1, 0), to(20, 23), 0, 1}, {example(), nil, just(0), 2, none}, {example(strict()), at(0, 0), to(10, 12), 1, 0}, {example(strict()), at(0, 0, 1, 2), to(-1, 2), 2, 0},
		{example(rule(0)), nil, just(0), 2, none}, {example(rule(0)), at(3, 1, 2, 1), just(0), 2, none}, {example(rule(0)), at(1, 0, 0, 2), to(-2, 1), 1, 0}, {example(rule(0)), at(2, 1, 0, 2), to(-12, -10), 0, 1},
		{example(), at(0, 2), to(-12, -10), 2, none}, {example(strict()), at(0, 2), to(-12, -10), 1, 0}, {example(rule(10)), at(0, 2), to(-12, -10), 1, 0}, {example(rule(9)), at(0, 2), to(-12, -10), 0, 0}, {example(rule(10)), at(0, 0), to(10, 12), 1, 0}, {example(rule(9)), at(0, 0), to(10, 12), 0, 0},
		{example(), at(0, 0, 2, 0, 1, 2), to(5, 8), 2, 1}, {example(), at(0, 0, 1, 2, 2, 0, 3, 1), to(5, 8), 2, none}, {example(), at(3, 1, 0, 2, 2, 2), to(-18, -16), 0, 2}, {example(rule(17)), at(3, 1, 0, 2, 2, 2), to(-18, -16), 1, 2}, // what loads weigh together does not matter
		{example(most(1)), at(0, 0, 1, 2), to(-1, 2), 2, none}, {great(), at(0, 0, 1, 0, 2, 0, 3, 0, 4, 0), to(280, 300), 0, 0}, {great(), at(4, 2, 3, 2, 2, 2, 1, 2, 0, 2), to(-300, -280), 0, 0}, {great(), at(4, 1, 3, 1, 2, 1, 1, 1, 0, 1), just(0), 2, none}, {great(), at(4, 1, 3, 1, 2, 0, 1, 1, 0, 2), to(-4, 4), 2, 2},
	} {
		if s, e := deck.List(x.b, x.on); s != x.list || e != api.OK {
			t.Errorf("List %d: %v, %d", i, s, e)
		}
		if n, e := deck.Level(x.b, x.on); n != x.level || e != api.OK {
			t.Errorf("Level %d: %d, %d", i, n, e)
		}
		n, e := deck.Tilts(x.b, x.on)
		if x.tilts == none && (n != 0 || e != api.ErrNone) || x.tilts != none && (n != x.tilts || e != api.OK) {
			t.Errorf("Tilts %d: %d, %d", i, n, e)
		}
	}
}

// P3.4
func TestStow(t *testing.T) {
	nine := load(just(9), port)
	for i, x := range []struct {
		b     api.DeckBook
		loads []int
		want  []api.DeckPlace // nil: there is none
	}{
		{example(), []int{0, 1}, at(0, 0, 1, 2)}, {example(), []int{0, 1, 2}, at(0, 0, 1, 2, 2, 0)}, {example(), []int{0, 1, 2, 3}, nil}, {example(strict()), []int{0, 1}, at(1, 0, 0, 2)}, {example(strict()), []int{0}, nil}, {example(strict()), []int{1}, at(1, 0)},
		{example(), nil, at()}, {example(rule(0), most(1)), nil, at()}, {example(most(1)), []int{2}, nil},
		{example(most(51)), []int{0, 1, 2, 3}, at(0, 0, 1, 2, 2, 0, 3, 1)}, {example(most(50)), []int{0, 1, 2, 3}, nil}, {example(most(12)), []int{0}, at(0, 0)}, {example(most(11)), []int{0}, nil}, {example(most(34), strict()), []int{0, 3}, nil},
		{example(rule(0)), []int{2, 3}, at(2, 1, 3, 1)}, {example(rule(6)), []int{2, 3}, at(2, 0, 3, 1)}, {example(rule(5)), []int{2, 3}, at(2, 1, 3, 1)}, {example(rule(0)), []int{0, 1}, nil}, {example(wide()), []int{4}, nil}, {example(wide(), rule(30)), []int{4}, at(4, 0)}, {example(wide(), rule(29)), []int{4}, nil},
		{example(loads(nine, nine, load(just(9), star))), []int{0, 1, 2}, at(0, 0, 2, 2, 1, 0)}, {example(loads(nine, nine)), []int{0, 1}, nil}, {example(loads(nine, nine), rule(18)), []int{0, 1}, at(0, 0, 1, 0)},
		{example(loads(load(just(20), port), load(just(12), star), load(just(8), star))), []int{0, 1, 2}, at(1, 2, 0, 0, 2, 2)}, {example(loads(load(just(20), port), load(just(12), star), load(just(8), star))), []int{0, 2}, at(2, 2, 0, 0)},
		{great(most(200)), []int{0, 2, 4}, at(0, 1, 2, 1, 4, 1)}, {great(most(180)), []int{0, 2, 4}, at(0, 1, 2, 1, 4, 1)}, {great(most(179)), []int{0, 2, 4}, nil}, {great(), []int{0, 1, 2, 3, 4}, nil},
	} {
		on, e := deck.Stow(x.b, x.loads)
		if x.want == nil && (len(on) > 0 || e != api.ErrNone) || x.want != nil && (!slices.Equal(on, x.want) || e != api.OK) {
			t.Errorf("Stow %d: %v, %d", i, on, e)
		}
	}
}

// P3.5 to P3.8
func TestCrossings(t *testing.T) {
	nine := load(just(9), port)
	for i, x := range []struct {
		b            api.DeckBook
		most, fewest []int // nil for fewest: there is none
		never        []int
		weigh        int // -1: there is none
	}{
		{example(), []int{0, 1, 2}, []int{0, 0, 0, 1}, nil, 0}, {example(light()), []int{0, 1}, []int{0, 0, 1, 1}, nil, 0}, {example(wide()), []int{0, 1, 2}, nil, []int{4}, 0}, {example(most(27)), []int{0, 1}, []int{0, 0, 1, 2}, nil, 0},
		{example(strict()), []int{0, 1, 2}, []int{0, 0, 0, 1}, nil, 0}, {example(most(21)), []int{0, 2}, nil, []int{3}, 0}, {example(rule(0)), []int{2, 3}, nil, []int{0, 1}, 0}, {example(most(51)), []int{0, 1, 2, 3}, []int{0, 0, 0, 0}, nil, 0}, {example(most(50)), []int{0, 1, 2}, []int{0, 0, 0, 1}, nil, 0}, {example(most(5)), nil, nil, []int{0, 1, 2, 3}, 0},
		{example(loads(nine)), []int{0}, []int{0}, nil, -1}, {example(loads(nine, nine, nine)), []int{0}, []int{0, 1, 2}, nil, -1}, {example(loads(nine, load(just(9), star), nine)), []int{0, 1, 2}, []int{0, 0, 0}, nil, -1}, {example(loads(nine, load(just(9), star), nine, nine)), []int{0, 1, 2}, []int{0, 0, 0, 1}, nil, -1}, {example(loads(nine, load(just(9), star), nine), rule(8)), nil, nil, []int{0, 1, 2}, -1},
		{example(loads(nine, nine, load(just(9), star)), most(20)), []int{0, 2}, []int{0, 1, 0}, nil, -1}, {example(loads(nine, nine, load(just(9), star), nine, load(just(9), star)), most(18)), []int{0, 2}, []int{0, 1, 0, 2, 1}, nil, -1},
		{example(loads(nine, load(to(20, 21), middle), load(to(9, 10), port)), most(30)), []int{0, 1}, []int{0, 0, 1}, nil, 1},
		{example(loads(load(to(20, 22), middle), load(to(18, 20), middle)), most(40)), []int{0}, []int{0, 1}, nil, 0}, {example(loads(load(just(20), middle), load(to(18, 21), middle), load(to(18, 20), middle)), most(40)), []int{0, 2}, []int{0, 1, 0}, nil, 1},
		{example(loads(load(to(12, 13), port), load(to(12, 14), star))), nil, nil, []int{0, 1}, 0}, {example(loads(load(to(12, 13), port), load(to(11, 12), star))), []int{0, 1}, []int{0, 0}, nil, 0}, {example(loads(load(to(12, 13), port), load(just(9), middle))), []int{1}, nil, []int{0}, 0}, {great(), []int{0, 1, 2}, []int{0, 0, 0, 1, 1}, nil, 0}, {great(rule(0)), []int{0, 1, 2}, []int{0, 0, 0, 1, 1}, nil, 0},
		{example(loads(load(to(13, 15), port|star), load(to(10, 11), port), load(to(9, 11), star)), rule(15)), []int{0, 1}, []int{0, 0, 1}, nil, 2}, // once 2 is weighed it is known to which side 0 goes
		{example(loads(load(to(8, 9), port|star), load(to(7, 11), port), load(to(7, 11), port|star)), rule(11)), []int{0, 1}, []int{0, 0, 1}, nil, 1},
	} {
		if l, e := deck.Most(x.b); !slices.Equal(l, x.most) || e != api.OK {
			t.Errorf("Most %d: %v, %d", i, l, e)
		}
		l, e := deck.Fewest(x.b)
		if x.fewest == nil && (len(l) > 0 || e != api.ErrNone) || x.fewest != nil && (!slices.Equal(l, x.fewest) || e != api.OK) {
			t.Errorf("Fewest %d: %v, %d", i, l, e)
		}
		if l, e := deck.Never(x.b); !slices.Equal(l, x.never) || e != api.OK {
			t.Errorf("Never %d: %v, %d", i, l, e)
		}
		n, e := deck.Weigh(x.b)
		if x.weigh < 0 && (n != 0 || e != api.ErrNone) || x.weigh >= 0 && (n != x.weigh || e != api.OK) {
			t.Errorf("Weigh %d: %d, %d", i, n, e)
		}
	}
}
