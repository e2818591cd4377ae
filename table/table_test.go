package table_test

import (
	"slices"
	"testing"

	"prow/api"
	"prow/table"
)

// P8.1: what is valid, up to each limit.
func TestValid(t *testing.T) {
	for i, b := range []api.TableBook{
		example(), example(rare()), example(slow()), example(light()), example(torn()), great(), great(turn(12)), great(ready(7, 7, 7, 7, 7)), deep(high(1), 0), deep(high(8), 0, 0, 0, 0, 7),
		example(takes(0)), example(takes(3)), example(turn(1)), example(turn(12)), example(ready(0, 0, 0, 0)), example(ready(3, 3, 3, 3)), deep(high(1), 0, 0), with(deep(high(1), 0), takes(3)),
	} {
		if e := table.Check(b); e != api.OK {
			t.Errorf("Check of the valid book %d: %d", i, e)
		}
	}
}

// wrongBooks has a book beyond each limit.
func wrongBooks() []api.TableBook {
	l := []api.TableBook{
		{}, {Landing: example().Landing}, {Deck: example().Deck}, {Landing: example().Landing, Deck: example().Deck, Ready: []int{0, 0, 2, 0}},
		example(tides()), example(tides(slices.Repeat([]api.Span{just(14)}, 9)...)), deep(high(9), 0), deep(high(24), 0), deep(high(25), 0), deep(nil), deep(nil, 0), example(sink(0)), example(sink(21)), example(reach(0, 19, 10)), example(reach(1, 12, 81)), example(sounds(sound(4, 0, 1))), example(sounds(sound(0, 2, 1))), great(sounds(slices.Repeat([]api.LandingSound{sound(0, 0, 116)}, 7)...)),
		example(loads()), example(loads(), ready()), deep(high(3)), deep(high(3), 0, 0, 0, 0, 0, 0), example(weighs(0, to(12, 10))), example(weighs(3, just(61))), example(weighs(3, to(20, 25))), example(stands(0, 0)), example(stands(3, 8)), example(rule(-1)), example(rule(31)), example(most(0)), example(most(201)),
		example(ready()), example(ready(0)), example(ready(0, 0, 2)), example(ready(0, 0, 2, 0, 0)), example(takes(-1)), example(takes(4)), example(turn(-1)), example(turn(0)), example(turn(13)),
	}
	for load := range 4 {
		for _, hour := range []int{-1, 4, 8, -2} {
			l = append(l, example(func(b *api.TableBook) { b.Ready[load] = hour }))
		}
	}
	return l
}

// notZero is told in place of an error if an error came with another result.
const notZero api.Errno = -1

func told(zero bool, e api.Errno) api.Errno {
	if e != api.OK && !zero {
		return notZero
	}
	return e
}

// tells returns the errors of all functions that are asked for nothing.
func tells(b api.TableBook) map[string]api.Errno {
	all := map[string]api.Errno{}
	best, e := table.Best(b)
	all["Best"] = told(len(best) == 0, e)
	last, e := table.Last(b)
	all["Last"] = told(last == 0, e)
	never, e := table.Never(b)
	all["Never"] = told(len(never) == 0, e)
	return all
}

// ofLoad returns the errors of those that are asked for a load.
func ofLoad(b api.TableBook, load int) map[string]api.Errno {
	all := map[string]api.Errno{}
	soon, e := table.Soon(b, load)
	all["Soon"] = told(soon == 0, e)
	late, e := table.Late(b, load)
	all["Late"] = told(late == 0, e)
	return all
}

// ofLoads returns the errors of those that are asked for some.
func ofLoads(b api.TableBook, hour int, loads []int) map[string]api.Errno {
	all := map[string]api.Errno{}
	can, e := table.Can(b, hour, loads)
	all["Can"] = told(!can, e)
	hours, e := table.Hours(b, loads)
	all["Hours"] = told(len(hours) == 0, e)
	return all
}

func ofTable(b api.TableBook, l []int) map[string]api.Errno {
	works, e := table.Works(b, l)
	return map[string]api.Errno{"Works": told(!works, e)}
}

// P8.1, R1 and R2: of a wrong book all functions tell first, and return nothing else.
func TestWrongBook(t *testing.T) {
	for i, b := range wrongBooks() {
		if e := table.Check(b); e != api.ErrTable {
			t.Errorf("Check of the wrong book %d: %d", i, e)
		}
		for _, l := range [][]int{nil, {0}, {0, 1}, {0, 0, 3, 0}, {-1, -1, -1, -1}, {9}, {1, 0}} {
			for _, n := range []int{0, 3, -1, 9} {
				for _, all := range []map[string]api.Errno{tells(b), ofLoad(b, n), ofLoads(b, n, l), ofTable(b, l)} {
					for name, e := range all {
						if e != api.ErrTable {
							t.Errorf("%s of the wrong book %d, %v, %d: %d", name, i, l, n, e)
						}
					}
				}
			}
		}
	}
}

// P8.1 to P8.6, and R1: a wrong question comes before soundings that cannot be right.
func TestWrongQuestion(t *testing.T) {
	for i, b := range []api.TableBook{example(), example(slow()), example(torn()), example(torn(), rare())} {
		asked := func(what any, all map[string]api.Errno) {
			t.Helper()
			for name, e := range all {
				if e != api.ErrTableAsk {
					t.Errorf("%s of the book %d, %v: %d", name, i, what, e)
				}
			}
		}
		for _, loads := range [][]int{{-1}, {4}, {99}, {-1, 0}, {0, 4}, {0, 0}, {1, 0}, {0, 2, 1}, {0, 1, 1}, {0, 1, 2, 3, 4}, {0, 1, 2, 3, 3}} {
			asked(loads, ofLoads(b, 0, loads))
			asked(loads, ofLoads(b, 4, loads))
		}
		for _, hour := range []int{-1, 4, 8, 99} {
			for _, loads := range [][]int{nil, {0}, {0, 1, 2, 3}} {
				if can, e := table.Can(b, hour, loads); can || e != api.ErrTableAsk {
					t.Errorf("Can of the book %d, %d, %v: %v, %d", i, hour, loads, can, e)
				}
			}
		}
		for _, load := range []int{-1, 4, 5, 99} {
			asked(load, ofLoad(b, load))
		}
		for _, l := range [][]int{nil, {0}, {-1}, {-1, -1, -1}, {0, 0, 0}, {-1, -1, -1, -1, -1}, {3, 3, 3, 3, 3}, {-2, -1, -1, -1}, {-1, -1, -1, -2}, {4, 3, 3, 3}, {1, 3, 3, 4}, {0, 99, 0, 0}} {
			asked(l, ofTable(b, l))
		}
	}
}

// P8.1 to P8.7: of soundings that cannot be right.
func TestFalse(t *testing.T) {
	for i, b := range []api.TableBook{
		example(torn()), example(torn(), slow()), example(sounds(sound(0, 0, 11))), example(sounds(sound(3, 1, 3), sound(3, 1, 4))), great(sounds(sound(0, 0, 111))), with(deep([]int{5}, 0), sounds(sound(0, 0, 4))),
	} {
		all := make([]int, len(b.Ready))
		for _, all := range []map[string]api.Errno{tells(b), ofLoad(b, 0), ofLoads(b, 0, nil), ofLoads(b, 0, []int{0}), ofTable(b, all)} {
			for name, e := range all {
				if e != api.ErrTableFalse {
					t.Errorf("%s of the book %d: %d", name, i, e)
				}
			}
		}
	}
}

// P8.1
func TestCanAndHours(t *testing.T) {
	for i, x := range []struct {
		b     api.TableBook
		loads []int
		want  []int
	}{
		{example(), nil, []int{1, 3}}, {example(), []int{0}, []int{1, 3}}, {example(), []int{1}, []int{1, 3}}, {example(), []int{2}, []int{3}}, {example(), []int{3}, []int{3}}, {example(), []int{0, 1}, []int{3}}, {example(), []int{0, 1, 2}, []int{3}}, {example(), []int{0, 3}, []int{3}}, {example(), []int{1, 2, 3}, []int{3}}, {example(), []int{0, 1, 3}, nil}, {example(), []int{0, 1, 2, 3}, nil},
		{example(slow()), nil, []int{0, 1}}, {example(slow()), []int{0}, []int{1}}, {example(slow()), []int{0, 1}, []int{1}}, {example(slow()), []int{2}, nil}, {example(takes(2)), nil, []int{0, 1}}, {example(takes(3)), nil, []int{0}}, {example(takes(3)), []int{0}, nil},
		{example(sounds(sound(0, 0, 10))), nil, []int{0, 1, 3}}, {example(sounds(sound(0, 0, 10))), []int{0}, []int{1, 3}}, // it surely lands since it was sounded
		{example(ready(1, 0, 0, 0)), []int{0}, []int{1, 3}}, {example(ready(2, 0, 0, 0)), []int{0}, []int{3}}, {example(ready(3, 0, 0, 0)), []int{0}, []int{3}}, {example(ready(2, 0, 0, 0)), []int{1, 2}, []int{1, 3}}, {example(ready(2, 0, 0, 0)), []int{0, 2}, []int{3}}, {example(ready(0, 0, 2, 0)), []int{0, 2}, []int{3}}, // each is ready
		{example(rule(11)), []int{0}, nil}, {example(rule(11)), []int{1}, []int{1, 3}}, {example(rule(11)), []int{0, 1}, []int{3}}, {example(light()), []int{1, 2, 3}, []int{3}}, {example(light()), []int{0, 2, 3}, nil}, {example(light()), []int{0, 3}, []int{3}}, // they can cross together
		{example(weighs(1, to(17, 20)), stands(1, middle)), []int{1}, []int{1, 3}}, {example(weighs(1, to(17, 21)), stands(1, middle)), []int{1}, []int{3}}, {example(weighs(1, to(8, 9)), weighs(0, to(10, 11))), []int{0, 1}, []int{1, 3}}, {example(weighs(1, to(8, 10)), weighs(0, to(10, 11))), []int{0, 1}, []int{3}}, // at the most that they weigh
		{deep([]int{0, 1, 2}, 0, 0), nil, []int{0, 1, 2}}, {deep([]int{0, 1, 2}, 0, 0), []int{1}, []int{1, 2}}, {deep([]int{0, 1, 2}, 0, 0), []int{0, 1}, []int{2}}, {deep([]int{0, 1, 2}, 0, 0, 0), []int{0, 1, 2}, nil},
		{with(deep([]int{2, 1, 0, 3}, 0, 0), takes(1)), []int{0}, []int{0}}, {with(deep([]int{2, 1, 2, 3}, 0, 0), takes(1)), []int{0, 1}, []int{2}}, {with(deep([]int{3, 1, 2, 1, 2}, 0, 0), takes(2)), []int{0, 1}, []int{0, 2}}, {with(deep(high(5), 0), takes(2)), []int{0}, []int{0, 1, 2}}, {with(deep(high(2), 0), takes(2)), []int{0}, nil}, {with(deep(high(2), 0), takes(2)), nil, nil}, // in the hour in which they arrive
		{with(deep([]int{0, 1, 2, 3}, 0), reach(0, 1, 2)), []int{0}, []int{1, 2}}, {with(deep([]int{0, 1, 2, 3}, 0), reach(1, 1, 2)), []int{0}, []int{1, 2}}, {with(deep([]int{1, 2, 3, 4}, 0), reach(0, 1, 3), takes(1)), []int{0}, []int{0, 1, 2}}, {with(deep([]int{1, 2, 3, 4}, 0), reach(1, 1, 3), takes(1)), []int{0}, []int{0, 1}}, // the shore that is left, and the other one
		{with(deep([]int{19, 20, 21}), heavy(50, 50, 50, 50)), []int{0, 1, 2, 3}, []int{1, 2}}, {with(deep(high(2)), heavy(50, 50, 50, 51)), []int{0, 1, 2, 3}, nil}, {with(deep(high(2)), heavy(50, 50, 50, 51)), []int{0, 1, 2}, []int{0, 1}}, {with(deep(high(2)), heavy(60, 60, 60, 60, 60)), []int{0, 1, 2, 3, 4}, nil},
		{great(), []int{1, 2, 3, 4}, []int{0, 1, 2, 3, 4}}, {great(), []int{0, 1, 2, 3, 4}, nil}, {great(), []int{0}, nil}, {great(takes(0)), []int{0}, []int{7}}, {great(takes(0)), []int{0, 1, 2, 3}, []int{7}},
	} {
		if l, e := table.Hours(x.b, x.loads); !slices.Equal(l, x.want) || e != api.OK {
			t.Errorf("Hours %d: %v, %d", i, l, e)
		}
		for hour := range x.b.Landing.Tides {
			if can, e := table.Can(x.b, hour, x.loads); can != slices.Contains(x.want, hour) || e != api.OK {
				t.Errorf("Can %d in %d: %v, %d", i, hour, can, e)
			}
		}
	}
}

// P8.2
func TestWorks(t *testing.T) {
	four := deep(high(8), 0, 0, 0, 0)
	for i, x := range []struct {
		b     api.TableBook
		table []int
		want  bool
	}{
		{example(), []int{1, 3, 3, 3}, true}, {example(), []int{1, 1, 3, 3}, false}, {example(), []int{3, 3, -1, 3}, false}, {example(rare()), []int{1, 3, 3, 3}, false}, {example(), []int{3, 1, 3, 3}, true}, {example(), []int{1, -1, 1, -1}, false}, {example(), []int{-1, 3, 3, 3}, true}, {example(rare()), []int{-1, 3, 3, 3}, true}, {example(rare()), []int{1, -1, -1, -1}, true}, {example(slow()), []int{1, 1, -1, -1}, true}, {example(slow()), []int{1, 1, -1, 1}, false}, {example(ready(0, 0, 0, 0)), []int{1, -1, 1, -1}, true},
		{example(), []int{-1, -1, -1, -1}, true}, {example(takes(3)), []int{-1, -1, -1, -1}, true}, {with(deep([]int{-9}, 0), turn(12)), []int{-1}, true}, {with(deep([]int{-9}, 0), turn(12)), []int{0}, false}, // no load crosses
		{example(), []int{0, -1, -1, -1}, false}, {example(), []int{2, -1, -1, -1}, false}, {example(sounds(sound(0, 0, 10))), []int{0, -1, -1, -1}, false}, // it does not land with it
		{four, []int{0, 0, 1, 1}, true}, {four, []int{0, 0, 0, 1}, false}, {four, []int{0, 1, 1, 1}, false}, {four, []int{0, 1, 0, 1}, true}, {four, []int{7, 6, 5, 4}, true}, {four, []int{0, 0, 0, 0}, false},
		{with(four, turn(3)), []int{0, 3, 6, -1}, true}, {with(four, turn(3)), []int{0, 2, 5, -1}, false}, {with(four, turn(3)), []int{0, 3, 5, -1}, false}, {with(four, turn(3)), []int{6, 0, 3, 3}, true}, {with(four, turn(3)), []int{5, 0, 3, 3}, false}, {with(four, turn(3)), []int{3, 0, 6, 7}, false}, {with(four, turn(3)), []int{2, 0, -1, 2}, false}, {with(four, turn(7)), []int{7, 0, 0, 7}, true}, {with(four, turn(8)), []int{7, 0, 0, 7}, false}, {with(four, turn(8)), []int{7, -1, -1, 7}, true}, {with(four, turn(12)), []int{0, -1, -1, -1}, true},
		{with(four, ready(0, 0, 2, 2)), []int{0, 0, 2, 2}, true}, {with(four, ready(0, 0, 2, 2)), []int{0, 0, 1, 2}, false}, {with(four, ready(0, 0, 2, 2)), []int{1, 0, 2, 1}, false}, {with(four, ready(0, 0, 2, 2)), []int{3, 1, 3, -1}, true},
		{great(), []int{-1, 0, 0, 0, 0}, true}, {great(), []int{-1, 1, 2, 3, 4}, true}, {great(), []int{-1, 0, 0, 0, 5}, false}, {great(), []int{7, 0, 0, 0, 0}, false}, {great(takes(0)), []int{7, 0, 0, 0, 0}, true}, {great(takes(0), turn(8)), []int{7, 0, 0, 0, 0}, false}, {great(ready(0, 0, 0, 0, 0)), []int{0, 0, 0, 0, 0}, false},
	} {
		if is, e := table.Works(x.b, x.table); is != x.want || e != api.OK {
			t.Errorf("Works %d: %v, %d", i, is, e)
		}
	}
}

// hour is the answer of one.
func hour(n int) answer { return number(n, api.OK) }

// P8.3, P8.5 and P8.7
func TestBest(t *testing.T) {
	for i, x := range []struct {
		b     api.TableBook
		best  []int
		last  answer
		never []int
	}{
		{example(), []int{1, 3, 3, 3}, hour(3), nil}, {example(rare()), []int{-1, 3, 3, 3}, none(), nil}, {example(slow()), []int{-1, 1, -1, 1}, none(), []int{2}}, {example(light()), []int{1, 3, 3, 3}, hour(3), nil}, {example(rule(11)), []int{3, 1, 3, 3}, hour(3), nil}, {example(takes(2)), []int{-1, 1, -1, 1}, none(), []int{2}}, {example(takes(3)), []int{-1, -1, -1, -1}, none(), []int{0, 1, 2, 3}}, {example(tides(just(12)), ready(0, 0, 0, 0)), []int{-1, -1, -1, -1}, none(), []int{0, 1, 2, 3}}, {example(ready(2, 2, 0, 0)), []int{-1, 3, 1, 3}, none(), nil}, {example(rule(0)), []int{-1, -1, 3, 3}, none(), []int{0, 1}},
		{deep(high(1), 0), []int{0}, hour(0), nil}, {deep(high(1), 0, 0, 0), []int{-1, 0, 0}, none(), nil}, {deep(high(3), 0, 0, 0), []int{0, 0, 1}, hour(1), nil}, {deep(high(3), 2, 2), []int{2, 2}, hour(2), nil}, {deep(high(8), 0, 0, 0, 0, 0), []int{0, 0, 1, 1, 2}, hour(2), nil}, {deep(high(2), 0, 0, 0, 0, 0), []int{-1, 0, 0, 1, 1}, none(), nil}, {deep(high(2), 1, 0, 0), []int{1, 0, 0}, hour(1), nil},
		{with(deep(high(8), 0, 0, 0), turn(5)), []int{0, 0, 5}, hour(5), nil}, {with(deep(high(8), 0, 0, 0), turn(7)), []int{0, 0, 7}, hour(7), nil}, {with(deep(high(8), 0, 0, 0), turn(8)), []int{-1, 0, 0}, none(), nil}, {with(deep(high(8), 0, 3, 5), turn(3)), []int{0, 5, 5}, hour(5), nil}, {with(deep(high(8), 0, 3, 4), turn(4)), []int{0, 4, 4}, hour(4), nil}, {with(deep(high(4), 0, 1, 1), turn(2)), []int{0, 2, 2}, hour(2), nil}, {with(deep(high(3), 0, 1, 1), turn(3)), []int{-1, 1, 1}, none(), nil}, // the earliest last departure comes before the first timetable
		{deep([]int{1, 0, 0, 2}, 0, 0), []int{0, 3}, hour(3), nil}, {deep([]int{1, 0, 1, 2}, 0, 0), []int{0, 2}, hour(2), nil}, {with(deep([]int{1, 0, 1, 2}, 0, 0), turn(3)), []int{0, 3}, hour(3), nil}, {with(deep([]int{1, 1, 0, 2}, 0, 0), turn(2)), []int{0, 3}, hour(3), nil}, {deep([]int{0, 0}, 0, 0), []int{-1, -1}, none(), []int{0, 1}}, {deep([]int{2, 0, 0}, 1, 0), []int{-1, 0}, none(), []int{0}},
		{with(deep(high(1)), heavy(60, 60, 60, 20)), []int{0, 0, 0, 0}, hour(0), nil}, {with(deep(high(1)), heavy(60, 60, 60, 21)), []int{-1, 0, 0, 0}, none(), nil}, {with(deep([]int{3, 4, 5}), heavy(41, 60, 50)), []int{-1, -1, 2}, none(), []int{1}},
		{great(), []int{-1, 0, 0, 0, 0}, none(), []int{0}}, {great(takes(0)), []int{7, 0, 0, 0, 0}, hour(7), nil}, {great(takes(0), turn(8)), []int{-1, 0, 0, 0, 0}, none(), nil}, {great(ready(4, 4, 4, 4, 4)), []int{-1, 4, 4, 4, 4}, none(), nil}, {great(ready(3, 3, 4, 4, 4)), []int{3, 3, 4, 4, 4}, hour(4), nil},
	} {
		if l, e := table.Best(x.b); !slices.Equal(l, x.best) || e != api.OK {
			t.Errorf("Best %d: %v, %d", i, l, e)
		}
		if got := number(table.Last(x.b)); got != x.last {
			t.Errorf("Last %d: %v", i, got)
		}
		if l, e := table.Never(x.b); !slices.Equal(l, x.never) || e != api.OK {
			t.Errorf("Never %d: %v, %d", i, l, e)
		}
	}
}

// P8.4 and P8.6
func TestSoonAndLate(t *testing.T) {
	for i, x := range []struct {
		b    api.TableBook
		load int
		soon answer
		late int
	}{
		{example(), 0, hour(1), 3}, {example(), 1, hour(1), 3}, {example(), 2, hour(3), 3}, {example(), 3, hour(3), 3}, {example(light()), 0, hour(1), 1}, {example(light()), 1, hour(1), 3}, {example(light()), 2, hour(3), 3}, {example(slow()), 2, none(), 3}, {example(slow()), 0, hour(1), 3}, {example(slow()), 1, hour(1), 3}, {example(slow()), 3, hour(1), 3}, {example(takes(3)), 0, none(), 3}, {example(rare()), 0, hour(1), 3}, {example(ready(2, 0, 0, 0)), 0, hour(3), 3},
		{example(rule(11)), 0, hour(3), 3}, {example(rule(11), weighs(1, to(8, 9)), weighs(0, just(12))), 0, hour(3), 3}, {example(rule(11), weighs(1, just(8)), weighs(0, just(12))), 0, hour(1), 3}, {example(rule(11), weighs(1, just(8)), weighs(0, just(12)), ready(0, 2, 2, 0)), 0, hour(3), 3}, // with another one that is ready
		{deep(high(1), 0, 0, 0), 0, hour(0), 0}, {deep(high(3), 0, 0, 0), 1, hour(0), 2}, {deep(high(2), 0, 0, 0), 2, hour(0), 1}, {deep(high(2), 0, 0, 0, 1), 0, hour(0), 1}, {deep(high(2), 0, 0, 0, 1), 3, hour(1), 1}, {deep(high(2), 0, 0, 1, 1), 0, hour(0), 0}, {deep(high(2), 0, 0, 1, 1), 2, hour(1), 1}, {deep(high(2), 0, 1, 1, 1), 0, hour(0), 0}, {deep(high(3), 2), 0, hour(2), 2},
		{deep([]int{1, 0, 1, 0}, 0), 0, hour(0), 2}, {deep([]int{1, 0, 1, 0}, 1), 0, hour(2), 2}, {deep([]int{1, 0, 1, 0}, 3), 0, none(), 3}, {deep([]int{0, 0, 1, 0}, 0, 3), 1, none(), 3}, {deep([]int{0, 1, 1, 0}, 0, 0), 1, hour(1), 2}, {deep([]int{1, 1, 0}, 0, 0), 1, hour(0), 1}, {deep([]int{1, 1, 0}, 1, 0), 1, hour(0), 0}, // once it is too late fewer cross
		{with(deep(high(8), 0, 0, 0), turn(5)), 0, hour(0), 7}, {with(deep(high(8), 0, 0, 3), turn(5)), 0, hour(0), 7}, {with(deep(high(8), 0, 3, 3), turn(5)), 0, hour(0), 2}, {with(deep(high(8), 7, 3, 3), turn(5)), 0, hour(7), 7}, {with(deep(high(8), 0, 7, 7), turn(5)), 0, hour(0), 2}, {with(deep(high(8), 2, 7, 7), turn(5)), 0, hour(2), 2},
		{great(), 0, none(), 7}, {great(), 1, hour(0), 4}, {great(takes(0)), 0, hour(7), 7}, {great(takes(0)), 1, hour(0), 7}, {great(takes(0), ready(7, 7, 7, 7, 0)), 4, hour(0), 6},
	} {
		if got := number(table.Soon(x.b, x.load)); got != x.soon {
			t.Errorf("Soon %d: %v", i, got)
		}
		if n, e := table.Late(x.b, x.load); n != x.late || e != api.OK {
			t.Errorf("Late %d: %d, %d", i, n, e)
		}
	}
}
