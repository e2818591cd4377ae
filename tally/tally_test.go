package tally_test

import (
	"slices"
	"testing"

	"prow/api"
	"prow/tally"
)

// P5.1: what is valid, up to each limit.
func TestValid(t *testing.T) {
	for i, b := range []api.TallyBook{
		example(), example(torn()), great(), day(1, 0), day(1, 60), day(8, 0), day(8, 60), example(trips(8)), example(room(0)), example(room(60)), example(counts()),
		example(more(toll(0, 0, 0))), example(more(toll(3, 3, 99))), example(more(toll(0, 3, 99))), example(more(toll(1, 1, 5))),
		example(more(count(0, 0, 3, 99, 20, 30, 30))), example(more(count(1, 0, 3, 99, 20, 30, 0))), example(more(count(2, 0, 3, 99, 20, 30, 30))), example(more(count(0, 0, 3, 0, 1, 0, 30))), example(more(count(2, 0, 3, 0, 1, 30, 0))), example(more(count(1, 0, 3, 0, 1, 0, 0))),
		great(counts(slices.Repeat([]api.TallyCount{count(1, 7, 7, 99, 20, 30, 0)}, 8)...)),
	} {
		if e := tally.Check(b); e != api.OK {
			t.Errorf("Check of the valid book %d: %d", i, e)
		}
	}
}

// wrongCounts has a count beyond each limit, for books of four trips.
func wrongCounts() []api.TallyCount {
	return []api.TallyCount{
		{}, {Who: -1, Unit: 1}, {Who: 3, Unit: 1},
		toll(-1, 0, 5), toll(-1, -1, 5), toll(0, 4, 5), toll(4, 4, 5), toll(1, 0, 5), toll(3, 2, 5), toll(3, 0, 5), toll(0, -1, 5),
		toll(0, 0, -1), toll(0, 0, 100), count(0, 0, 0, 5, 0, 0, 0), count(0, 0, 0, 5, -1, 0, 0), count(0, 0, 0, 5, 21, 0, 0), count(1, 0, 0, 0, 21, 0, 0),
		count(0, 0, 0, 5, 1, -1, 0), count(0, 0, 0, 5, 1, 31, 0), count(0, 0, 0, 5, 1, 0, -1), count(0, 0, 0, 5, 1, 0, 31), count(2, 0, 0, 5, 1, 0, -1), count(2, 0, 0, 5, 1, 0, 31),
		count(1, 0, 0, 5, 1, 0, 1), count(1, 0, 0, 5, 1, 0, 30), count(1, 0, 0, 5, 1, 0, -1), count(1, 0, 0, 5, 1, 31, 0), count(1, 0, 0, 5, 1, -1, 0),
	}
}

// wrongBooks has a book beyond each limit.
func wrongBooks() []api.TallyBook {
	l := []api.TallyBook{
		{}, day(0, 5), day(-1, 5), day(9, 5), day(4, -1), day(4, 61), example(trips(0)), example(trips(-1)), example(trips(9)), example(trips(3)), example(trips(2)), example(room(-1)), example(room(61)),
		great(more(toll(0, 0, 1))), example(counts(slices.Repeat([]api.TallyCount{toll(0, 0, 5)}, 9)...)),
	}
	for _, c := range wrongCounts() {
		l = append(l, example(counts(c)), example(more(c)), example(counts(c, toll(0, 0, 5))))
	}
	return l
}

// notZero is told in place of an error if an error came with another result.
const notZero api.Errno = -1

func told(zero bool, e api.Errno) api.Errno {
	if e != api.OK && !zero {
		return notZero
	}
	return e
}

// ask is what is asked of a book.
type ask struct {
	from, to, rate int
	truth          []int
	count          api.TallyCount
}

// proper is an ask that can be made of a book of four trips.
func proper() ask { return ask{0, 3, 2, []int{5, 5, 6, 3}, toll(3, 3, 10)} }

// asks returns the errors of all functions that are asked something.
func (a ask) asks(b api.TallyBook) map[string]api.Errno {
	all := map[string]api.Errno{}
	many, e := tally.Many(b, a.from, a.to)
	all["Many"] = told(many == api.Span{}, e)
	can, e := tally.Can(b, a.truth)
	all["Can"] = told(!can, e)
	pays, e := tally.Pays(b, a.rate)
	all["Pays"] = told(pays == api.Span{}, e)
	fits, e := tally.Fits(b, a.count)
	all["Fits"] = told(!fits, e)
	return all
}

// tells returns the errors of all others.
func tells(b api.TallyBook) map[string]api.Errno {
	all := map[string]api.Errno{}
	right, e := tally.Right(b)
	all["Right"] = told(!right, e)
	wrong, e := tally.Wrong(b)
	all["Wrong"] = told(len(wrong) == 0, e)
	whose, e := tally.Whose(b)
	all["Whose"] = told(len(whose) == 0, e)
	again, e := tally.Again(b)
	all["Again"] = told(again == 0, e)
	return all
}

// P5.1, R1 and R2: of a wrong book all functions tell first, and return nothing else.
func TestWrongBook(t *testing.T) {
	improper := ask{-1, 9, 100, nil, api.TallyCount{}}
	for i, b := range wrongBooks() {
		if e := tally.Check(b); e != api.ErrTally {
			t.Errorf("Check of the wrong book %d: %d", i, e)
		}
		for _, all := range []map[string]api.Errno{proper().asks(b), improper.asks(b), tells(b)} {
			for name, e := range all {
				if e != api.ErrTally {
					t.Errorf("%s of the wrong book %d: %d", name, i, e)
				}
			}
		}
	}
}

// wrongAsks returns for each function some asks that cannot be made of a book of four trips.
func wrongAsks() map[string][]ask {
	all := map[string][]ask{}
	add := func(name string, change func(a *ask)) {
		a := proper()
		change(&a)
		all[name] = append(all[name], a)
	}
	for _, x := range [][2]int{{-1, 0}, {0, -1}, {-1, -1}, {0, 4}, {4, 4}, {4, 0}, {1, 0}, {3, 2}, {3, 0}} {
		add("Many", func(a *ask) { a.from, a.to = x[0], x[1] })
	}
	for _, l := range [][]int{nil, {}, {5}, {5, 5, 6}, {5, 5, 6, 3, 0}, {5, 5, 6, 3, 5, 5, 6, 3}} {
		add("Can", func(a *ask) { a.truth = l })
	}
	for _, rate := range []int{-1, 100, -99, 1000} {
		add("Pays", func(a *ask) { a.rate = rate })
	}
	for _, c := range wrongCounts() {
		add("Fits", func(a *ask) { a.count = c })
	}
	return all
}

// P5.2 to P5.5 and R1: a wrong question comes before counts that cannot be right.
func TestWrongQuestion(t *testing.T) {
	for name, l := range wrongAsks() {
		for i, a := range l {
			for _, b := range []api.TallyBook{example(), example(torn()), example(counts()), day(4, 0)} {
				for other, e := range a.asks(b) {
					if e == notZero || (e == api.ErrTallyAsk) != (other == name) {
						t.Errorf("%s of the ask %d of %s: %d", other, i, name, e)
					}
				}
			}
		}
	}
}

// P5.1 to P5.5 and P5.8: of a book that cannot be true.
func TestFalse(t *testing.T) {
	for i, b := range []api.TallyBook{
		example(torn()), example(more(toll(0, 3, 15))), example(more(toll(0, 3, 25))), example(more(toll(0, 1, 8))), example(more(toll(2, 2, 7))), example(more(toll(0, 0, 11))), example(room(4)), example(more(toll(0, 0, 2), toll(1, 1, 6))),
		example(counts(toll(0, 1, 21))), example(counts(toll(1, 2, 9), toll(1, 1, 10))), example(counts(toll(0, 2, 5), toll(2, 3, 6), toll(0, 3, 12))), example(counts(toll(0, 3, 5), toll(0, 1, 2), toll(2, 3, 2))),
		example(counts(count(2, 0, 0, 5, 1, 0, 1), count(2, 0, 0, 5, 1, 1, 0), toll(0, 0, 4))), // two counts are right only if five crossed
		example(counts(count(0, 1, 1, 1, 20, 30, 9))),                                          // no room
		example(room(3), counts(toll(0, 0, 0), toll(0, 3, 10))),
	} {
		for _, all := range []map[string]api.Errno{proper().asks(b), tells(b)} {
			for name, e := range all {
				isTold := slices.Contains([]string{"Can", "Right", "Wrong", "Whose"}, name)
				if isTold && e != api.OK || !isTold && e != api.ErrTallyFalse {
					t.Errorf("%s of the book %d: %d", name, i, e)
				}
			}
		}
		if right, e := tally.Right(b); right || e != api.OK {
			t.Errorf("Right of the book %d: %v, %d", i, right, e)
		}
		if can, e := tally.Can(b, proper().truth); can || e != api.OK {
			t.Errorf("Can of the book %d: %v, %d", i, can, e)
		}
	}
}

// eachTrip has a count for each of eight trips.
func eachTrip() change {
	var l []api.TallyCount
	for trip := range api.TallyTrips {
		l = append(l, toll(trip, trip, 8+7*trip))
	}
	return counts(l...)
}

// P5.2
func TestMany(t *testing.T) {
	chained := day(3, 9, toll(0, 1, 5), toll(1, 2, 7))
	for i, x := range []struct {
		b        api.TallyBook
		from, to int
		want     api.Span
	}{
		{example(), 0, 3, to(16, 24)}, {example(), 0, 1, to(9, 11)}, {example(), 2, 2, to(5, 6)}, {example(), 3, 3, to(0, 10)}, {example(), 0, 0, to(0, 10)}, {example(), 1, 1, to(0, 10)}, {example(), 1, 2, to(5, 16)}, {example(), 1, 3, to(6, 24)}, {example(), 2, 3, to(5, 15)}, {example(), 0, 2, to(14, 17)},
		{example(room(9)), 0, 0, to(0, 9)}, {example(room(9)), 0, 3, to(16, 24)}, {example(room(5)), 0, 1, to(9, 10)}, {example(room(5)), 0, 0, to(4, 5)}, {example(room(5)), 2, 2, just(5)}, {example(room(5)), 3, 3, to(1, 5)}, {example(room(5)), 0, 3, to(16, 20)},
		{day(1, 0), 0, 0, just(0)}, {day(1, 60), 0, 0, to(0, 60)}, {day(8, 60), 0, 7, to(0, 480)}, {day(8, 60), 7, 7, to(0, 60)}, {day(8, 60), 2, 4, to(0, 180)}, {day(3, 0, toll(0, 2, 0)), 1, 2, just(0)}, {day(2, 9, toll(1, 1, 4)), 0, 1, to(4, 13)},
		{day(2, 50, count(0, 0, 1, 3, 20, 5, 6)), 0, 1, to(54, 65)}, {day(2, 50, count(0, 0, 1, 3, 20, 5, 6)), 0, 0, to(4, 50)}, {day(2, 50, count(1, 0, 1, 3, 20, 5, 0)), 0, 1, to(60, 65)}, {day(2, 50, count(2, 0, 1, 3, 20, 0, 6)), 0, 1, to(54, 60)}, {day(2, 50, count(0, 0, 1, 0, 20, 7, 30)), 0, 1, to(0, 7)}, {day(2, 50, count(0, 0, 1, 5, 20, 30, 0)), 0, 1, just(100)}, // who counts may be wrong to either side, or to one; nobody can be fewer than nobody
		{chained, 1, 1, to(0, 5)}, {chained, 0, 2, to(7, 12)}, {chained, 0, 0, to(0, 5)}, {chained, 2, 2, to(2, 7)}, {with(chained, room(5)), 1, 1, to(2, 5)}, {with(chained, room(5)), 0, 0, to(0, 3)}, {with(chained, room(5)), 0, 2, to(7, 10)},
		{day(4, 20, toll(0, 2, 9), toll(1, 3, 12), toll(1, 2, 7)), 0, 3, just(14)}, {day(4, 20, toll(0, 2, 9), toll(1, 3, 12), toll(1, 2, 7)), 1, 1, to(0, 7)}, {day(4, 20, toll(0, 3, 14), toll(0, 0, 2), toll(3, 3, 5)), 1, 2, just(7)}, {day(4, 20, toll(0, 3, 14), toll(0, 2, 9), toll(1, 3, 12)), 1, 2, just(7)},
		{day(3, 20, count(2, 0, 1, 9, 1, 2, 0), count(0, 0, 1, 1, 12, 0, 2)), 0, 1, to(10, 11)}, {day(3, 20, count(2, 0, 1, 9, 1, 2, 0), count(0, 0, 1, 1, 12, 0, 1)), 0, 1, just(11)}, // counts over the same trips
		{great(), 0, 7, to(370, 430)}, {great(), 3, 3, to(0, 60)}, {great(), 0, 5, to(250, 360)}, {great(counts(count(2, 0, 7, 24, 20, 0, 0))), 4, 4, just(60)}, {great(counts(count(2, 0, 7, 24, 20, 0, 1))), 4, 4, to(59, 60)}, {great(counts(toll(0, 1, 60), toll(1, 2, 60), toll(2, 3, 60), toll(3, 4, 60), toll(4, 5, 60), toll(5, 6, 60), toll(6, 7, 60), toll(7, 7, 13))), 0, 0, just(47)},
		{great(eachTrip()), 0, 7, just(260)}, {great(eachTrip()), 0, 6, just(203)}, {great(eachTrip()), 1, 7, just(252)}, {great(eachTrip()), 2, 5, just(130)}, // as many counts as can be are added, on and back
	} {
		if s, e := tally.Many(x.b, x.from, x.to); s != x.want || e != api.OK {
			t.Errorf("Many %d: %v, %d", i, s, e)
		}
	}
}

// P5.3
func TestCan(t *testing.T) {
	for i, x := range []struct {
		b     api.TallyBook
		truth []int
		want  bool
	}{
		{example(), []int{5, 5, 6, 3}, true}, {example(), []int{5, 3, 6, 3}, false}, {example(), []int{5, 5, 6, 11}, false}, {example(), []int{5, 4, 5, 2}, true}, {example(), []int{5, 4, 5, 1}, false}, {example(), []int{5, 6, 6, 7}, true}, {example(), []int{5, 6, 6, 8}, false}, {example(), []int{5, 7, 5, 2}, false}, {example(), []int{5, 5, 4, 3}, false}, {example(), []int{5, 5, 7, 3}, false}, {example(), []int{0, 9, 5, 2}, true}, {example(), []int{10, 0, 5, 2}, true},
		{example(), []int{11, 0, 5, 2}, false}, {example(), []int{0, 11, 5, 2}, false}, {example(), []int{-1, 10, 5, 2}, false}, {example(), []int{10, -1, 5, 5}, false}, {example(), []int{9, 0, 5, -1}, false}, {example(torn()), []int{5, 5, 6, 10}, false}, {example(torn()), []int{5, 5, 6, 3}, false},
		{day(1, 0), []int{0}, true}, {day(1, 0), []int{1}, false}, {day(1, 0), []int{-1}, false}, {day(1, 60), []int{60}, true}, {day(1, 60), []int{61}, false}, {day(2, 9, count(1, 0, 1, 7, 1, 1, 0)), []int{3, 4}, true}, {day(2, 9, count(1, 0, 1, 7, 1, 1, 0)), []int{3, 3}, false}, {day(2, 9, count(1, 0, 1, 7, 1, 1, 0)), []int{4, 4}, true}, {day(2, 9, count(1, 0, 1, 7, 1, 1, 0)), []int{5, 4}, false},
		{great(), []int{50, 50, 50, 50, 50, 50, 50, 50}, true}, {great(), []int{50, 50, 50, 50, 50, 50, 50, 19}, false}, {great(), []int{50, 50, 50, 50, 50, 50, 50, 20}, true}, {great(), []int{60, 60, 60, 60, 60, 60, 60, 10}, true}, {great(), []int{60, 60, 60, 60, 60, 60, 60, 11}, false},
	} {
		if can, e := tally.Can(x.b, x.truth); can != x.want || e != api.OK {
			t.Errorf("Can %d: %v, %d", i, can, e)
		}
	}
}

// P5.4
func TestPays(t *testing.T) {
	for i, x := range []struct {
		b    api.TallyBook
		rate int
		want api.Span
	}{
		{example(), 2, to(32, 48)}, {example(), 0, just(0)}, {example(), 1, to(16, 24)}, {example(), 99, to(1584, 2376)}, {example(more(toll(3, 3, 10))), 3, just(72)}, {day(1, 0), 99, just(0)}, {day(8, 60), 99, to(0, 47520)}, {great(), 99, to(36630, 42570)}, {great(counts(toll(0, 0, 5))), 10, to(50, 4250)},
	} {
		if s, e := tally.Pays(x.b, x.rate); s != x.want || e != api.OK {
			t.Errorf("Pays %d: %v, %d", i, s, e)
		}
	}
}

// P5.5
func TestFits(t *testing.T) {
	full := great(counts(slices.Repeat([]api.TallyCount{toll(0, 1, 60)}, 8)...))
	for i, x := range []struct {
		b     api.TallyBook
		count api.TallyCount
		want  bool
	}{
		{example(), toll(3, 3, 10), true}, {example(), toll(2, 3, 3), false}, {example(), toll(0, 3, 24), true}, {example(), toll(0, 3, 25), false}, {example(), toll(0, 3, 16), true}, {example(), toll(0, 3, 15), false}, {example(), toll(3, 3, 0), true}, {example(), toll(3, 3, 11), false},
		{example(), count(2, 0, 3, 25, 1, 0, 1), true}, {example(), count(2, 0, 3, 26, 1, 0, 1), false}, {example(), count(1, 0, 3, 15, 1, 1, 0), true}, {example(), count(1, 0, 3, 14, 1, 1, 0), false}, {example(), count(1, 2, 2, 4, 1, 1, 0), true}, {example(), count(1, 2, 2, 4, 1, 0, 0), false}, {example(), count(0, 0, 3, 2, 20, 0, 16), true}, {example(), count(0, 0, 3, 2, 20, 30, 15), false}, {example(), count(0, 0, 3, 99, 20, 30, 30), false}, {example(), count(0, 0, 3, 0, 1, 30, 30), true},
		{example(), toll(1, 2, 16), true}, {example(), toll(1, 2, 17), false}, {day(1, 0), toll(0, 0, 0), true}, {day(1, 0), toll(0, 0, 1), false}, {day(1, 0), count(0, 0, 0, 1, 20, 0, 20), true}, {day(1, 0), count(0, 0, 0, 1, 20, 0, 19), false},
		{full, toll(0, 1, 60), true}, {full, toll(0, 1, 61), false}, {full, toll(0, 0, 60), true}, {full, toll(1, 1, 0), true}, // nine counts
	} {
		if fits, e := tally.Fits(x.b, x.count); fits != x.want || e != api.OK {
			t.Errorf("Fits %d: %v, %d", i, fits, e)
		}
	}
}

// P5.1, P5.6 and P5.7
func TestWrongAndWhose(t *testing.T) {
	all := []int{0, 1, 2}
	by := func(who, trip, told int) api.TallyCount { return count(who, trip, trip, told, 1, 0, 0) }
	for i, x := range []struct {
		b            api.TallyBook
		wrong, whose []int
	}{
		{example(), nil, all}, {example(torn()), []int{0}, []int{0, 2}}, {example(more(toll(0, 3, 28))), []int{3}, []int{2}}, {example(counts()), nil, all}, {day(1, 0), nil, all}, {great(), nil, all},
		{day(2, 5, toll(0, 1, 11)), []int{0}, []int{2}}, {day(2, 5, toll(0, 1, 10)), nil, all}, {day(2, 5, by(0, 0, 6)), []int{0}, []int{0}}, {day(2, 5, by(1, 0, 6)), []int{0}, []int{1}},
		{day(2, 9, by(2, 0, 3), by(0, 0, 4)), []int{0}, []int{0, 2}}, {day(2, 9, by(0, 0, 4), by(2, 0, 3)), []int{0}, []int{0, 2}}, {day(2, 9, by(0, 0, 4), by(1, 0, 3)), []int{0}, []int{0, 1}}, {day(2, 9, by(1, 0, 4), by(2, 0, 3)), []int{0}, []int{1, 2}},
		{day(2, 9, by(2, 0, 3), by(0, 0, 4), by(1, 0, 4)), []int{0}, []int{2}}, {day(2, 9, by(0, 0, 4), by(2, 0, 3), by(1, 0, 4)), []int{1}, []int{2}}, {day(2, 9, by(2, 0, 3), by(0, 0, 4), by(1, 0, 5)), []int{0, 1}, nil}, {day(2, 9, by(1, 0, 3), by(0, 0, 4), by(1, 0, 5)), []int{0, 1}, []int{1}}, // one's own counts need not be right together
		{day(2, 9, toll(0, 0, 3), toll(0, 0, 4)), []int{0}, []int{2}}, {day(2, 9, toll(0, 0, 3), toll(0, 0, 4), by(0, 1, 12)), []int{0, 2}, nil}, {day(2, 9, by(0, 1, 12), toll(0, 0, 3), toll(0, 0, 4)), []int{0, 1}, nil},
		{day(2, 9, toll(0, 0, 3), toll(0, 1, 9), toll(1, 1, 5)), []int{0}, []int{2}}, {day(2, 9, toll(1, 1, 5), by(0, 0, 3), toll(0, 1, 9)), []int{0}, []int{0, 2}}, {day(2, 9, toll(0, 0, 3), toll(0, 1, 9), toll(1, 1, 5), toll(0, 0, 4)), []int{0}, []int{2}}, {day(2, 9, toll(0, 0, 3), toll(0, 1, 9), toll(1, 1, 5), toll(0, 0, 3)), []int{1}, []int{2}}, {day(2, 9, toll(0, 0, 3), toll(0, 1, 9), toll(1, 1, 5), by(1, 0, 3), toll(1, 1, 6)), []int{2}, []int{2}}, {day(2, 9, toll(0, 0, 3), toll(0, 1, 9), toll(1, 1, 5), by(1, 0, 3), toll(1, 1, 5)), []int{1}, []int{2}},
		{day(2, 9, toll(0, 0, 3), toll(0, 0, 4), toll(1, 1, 3), toll(1, 1, 4)), []int{0, 2}, []int{2}}, {day(2, 9, toll(0, 0, 3), toll(0, 0, 4), toll(0, 0, 4), toll(0, 0, 3)), []int{0, 3}, []int{2}}, {day(2, 9, toll(0, 0, 4), toll(0, 0, 3), toll(0, 0, 3), toll(0, 0, 2)), []int{0, 3}, []int{2}}, {day(2, 9, toll(0, 0, 5), toll(0, 0, 4), toll(0, 0, 3), toll(0, 0, 2)), []int{0, 1, 2}, []int{2}},
		{great(counts(slices.Repeat([]api.TallyCount{count(0, 0, 7, 99, 20, 0, 30)}, 8)...)), []int{0, 1, 2, 3, 4, 5, 6, 7}, []int{0}}, {great(counts(slices.Concat(slices.Repeat([]api.TallyCount{toll(0, 0, 61)}, 7), []api.TallyCount{toll(0, 0, 60)})...)), []int{0, 1, 2, 3, 4, 5, 6}, []int{2}},
	} {
		if l, e := tally.Wrong(x.b); !slices.Equal(l, x.wrong) || e != api.OK {
			t.Errorf("Wrong %d: %v, %d", i, l, e)
		}
		if l, e := tally.Whose(x.b); !slices.Equal(l, x.whose) || e != api.OK {
			t.Errorf("Whose %d: %v, %d", i, l, e)
		}
		if right, e := tally.Right(x.b); right != (len(x.wrong) == 0) || e != api.OK {
			t.Errorf("Right %d: %v, %d", i, right, e)
		}
	}
}

// P5.8
func TestAgain(t *testing.T) {
	about := func(trip, told, under int) api.TallyCount { return count(2, trip, trip, told, 1, under, 0) }
	for i, x := range []struct {
		b    api.TallyBook
		want answer
	}{
		{example(), number(3, api.OK)}, {example(more(toll(3, 3, 10))), number(0, api.ErrNone)}, {example(more(toll(0, 3, 20))), number(0, api.ErrNone)}, {day(1, 0), number(0, api.ErrNone)}, {day(8, 0), number(0, api.ErrNone)}, {day(1, 1), number(0, api.OK)}, {day(8, 60), number(0, api.OK)}, {great(), number(0, api.OK)}, {day(2, 60, toll(0, 1, 60)), number(0, api.ErrNone)},
		{day(3, 9, toll(0, 0, 3)), number(1, api.OK)}, {day(3, 9, toll(0, 1, 3)), number(2, api.OK)}, {day(3, 9, about(0, 3, 1), about(1, 3, 2), about(2, 3, 2)), number(1, api.OK)}, {day(3, 9, about(0, 3, 2), about(1, 3, 2), about(2, 3, 3)), number(2, api.OK)}, {day(3, 9, about(0, 3, 2), about(1, 3, 2), about(2, 3, 1)), number(0, api.OK)},
		{day(3, 9, toll(0, 1, 9), about(2, 0, 1)), number(2, api.OK)}, {day(3, 9, toll(1, 2, 9), about(0, 0, 1)), number(0, api.OK)}, // little is known of a trip, but all of two
		{day(3, 9, toll(0, 1, 9), toll(1, 2, 9)), number(0, api.OK)}, {day(3, 9, toll(0, 2, 9), toll(1, 1, 4)), number(0, api.ErrNone)},
		{day(3, 9, count(2, 0, 2, 19, 1, 3, 0), count(2, 0, 1, 10, 1, 1, 0), toll(2, 2, 9)), number(0, api.OK)}, {day(3, 9, count(2, 0, 2, 20, 1, 2, 0), count(2, 0, 1, 10, 1, 1, 0), toll(2, 2, 9)), number(0, api.ErrNone)}, {day(4, 9, toll(0, 1, 5), toll(1, 2, 7), about(3, 1, 7)), number(3, api.OK)}, {day(4, 9, toll(0, 1, 5), toll(1, 2, 7), about(3, 1, 3)), number(0, api.OK)},
	} {
		if got := number(tally.Again(x.b)); got != x.want {
			t.Errorf("Again %d: %v", i, got)
		}
	}
}
