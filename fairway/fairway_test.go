package fairway_test

import (
	"slices"
	"testing"

	"prow/api"
	"prow/fairway"
)

// P4.1: what is valid, up to each limit.
func TestValid(t *testing.T) {
	for i, b := range []api.FairwayBook{
		example(), example(sighted()), example(torn()), example(mute()), great(), great(torn(), sounds(1, 0)), lone(), lone(ship(60, just(120), just(1))),
		example(ships()), example(sounds(0, 60)), example(sounds(1, 0)),
		example(away(0, just(1))), example(away(0, to(1, 7))), example(away(1, to(114, 120))), example(away(1, just(120))),
		example(speed(0, just(1))), example(speed(0, to(1, 3))), example(speed(1, to(10, 12))), example(speed(1, just(12))),
		example(hear(just(1))), example(hear(to(1, 11))), example(hear(to(110, 120))), example(hear(just(120))),
		example(breadth(0)), example(breadth(10)), example(cross(1)), example(cross(20)), example(slack(0)), example(slack(15)),
		example(sights(sight(1, 4, just(0)))), example(sights(sight(0, 0, to(0, 6)))), example(sights(sight(1, 200, to(114, 120)))), example(sights(sight(0, 200, just(120)))),
	} {
		if e := fairway.Check(b); e != api.OK {
			t.Errorf("Check of the valid book %d: %d", i, e)
		}
	}
}

// wrongBooks has a book beyond each limit.
func wrongBooks() []api.FairwayBook {
	l := []api.FairwayBook{
		{}, great(func(b *api.FairwayBook) { b.Ships = append(b.Ships, b.Ships[0]) }), great(func(b *api.FairwayBook) { b.Sights = append(b.Sights, b.Sights[0]) }),
		example(breadth(-1)), example(breadth(11)), example(cross(0)), example(cross(-1)), example(cross(21)), example(slack(-1)), example(slack(16)),
		example(cross(21), slack(0)), example(cross(0), slack(5)), lone(ship(61, just(9), just(1))),
		example(ships(), sighted()), example(gone(1), sighted()),
	}
	for _, s := range []api.Span{to(30, 41), to(0, 5), just(0), just(-1), just(121), to(115, 121), to(40, 39), to(1, 120)} {
		l = append(l, example(hear(s)))
	}
	for n := range 2 {
		for _, minute := range []int{-1, 61, 200} {
			l = append(l, example(sounds(n, minute)))
		}
		for _, s := range []api.Span{to(20, 27), to(0, 3), just(0), just(-1), just(121), to(118, 121), to(22, 20), to(1, 120)} {
			l = append(l, example(away(n, s)))
		}
		for _, s := range []api.Span{to(3, 6), to(0, 2), just(0), just(-1), just(13), to(11, 13), to(4, 3)} {
			l = append(l, example(speed(n, s)))
		}
	}
	for _, s := range []api.FairwaySight{
		sight(2, 9, just(0)), sight(-1, 9, just(0)), sight(1, 3, just(0)), sight(1, 0, just(0)), sight(0, -1, just(0)), sight(0, 201, just(0)), sight(1, 201, just(0)),
		sight(0, 0, to(0, 7)), sight(0, 0, to(-1, 0)), sight(0, 0, just(-1)), sight(0, 0, just(121)), sight(0, 0, to(119, 121)), sight(0, 0, to(5, 4)),
	} {
		l = append(l, example(sights(s)), example(sights(sight(0, 0, just(20)), s)))
	}
	return l
}

// notZero is told in place of an error if an error came with another result.
const notZero api.Errno = -1

func told(zero bool, e api.Errno) api.Errno {
	if e != api.OK && !zero {
		return notZero
	}
	return e
}

// asks returns the errors of all functions that are asked for a ship or a minute.
func asks(b api.FairwayBook, ship, minute int) map[string]api.Errno {
	all := map[string]api.Errno{}
	near, e := fairway.Near(b, ship, minute)
	all["Near"] = told(near == 0, e)
	when, e := fairway.When(b, ship)
	all["When"] = told(when == api.Span{}, e)
	clear, e := fairway.Clear(b, minute)
	all["Clear"] = told(clear == 0, e)
	may, e := fairway.May(b, minute)
	all["May"] = told(may == 0, e)
	next, e := fairway.Next(b, minute)
	all["Next"] = told(next == 0, e)
	return all
}

// tells returns the errors of those that are told what can be, and are asked for nothing.
func tells(b api.FairwayBook) map[string]api.Errno {
	all := map[string]api.Errno{}
	heard, e := fairway.Hear(b)
	all["Hear"] = told(heard == api.Span{}, e)
	free, e := fairway.Free(b)
	all["Free"] = told(len(free) == 0, e)
	return all
}

// P4.1, R1 and R2: of a wrong book all functions tell first, and return nothing else.
func TestWrongBook(t *testing.T) {
	for i, b := range wrongBooks() {
		if e := fairway.Check(b); e != api.ErrFairway {
			t.Errorf("Check of the wrong book %d: %d", i, e)
		}
		for _, all := range []map[string]api.Errno{asks(b, 0, 0), asks(b, -1, -1), asks(b, 9, 300), tells(b)} {
			for name, e := range all {
				if e != api.ErrFairway {
					t.Errorf("%s of the wrong book %d: %d", name, i, e)
				}
			}
		}
		if is, e := fairway.Right(b); is || e != api.ErrFairway {
			t.Errorf("Right of the wrong book %d: %v, %d", i, is, e)
		}
		if l, e := fairway.Wrong(b); len(l) > 0 || e != api.ErrFairway {
			t.Errorf("Wrong of the wrong book %d: %v, %d", i, l, e)
		}
	}
}

// P4.2 to P4.6 and R1: a wrong question comes before sightings that cannot be right, and before that there is nothing to tell.
func TestWrongQuestion(t *testing.T) {
	ofShip, ofMinute, ofBegin := []string{"Near", "When"}, []string{"Near", "Clear", "May", "Next"}, []string{"Clear", "May", "Next"}
	for i, b := range []api.FairwayBook{example(), example(sighted()), example(torn()), example(mute())} {
		for _, x := range []struct {
			ship, minute int
			wrong        []string
		}{
			{-1, 5, ofShip}, {2, 5, ofShip}, {0, -1, ofMinute}, {1, 61, ofBegin}, {1, 200, ofBegin}, {1, 201, ofMinute},
			{0, 0, nil}, {1, 60, nil}, {1, 3, nil}, {-1, -1, slices.Concat(ofShip, ofBegin)}, {2, 201, slices.Concat(ofShip, ofBegin)}, {2, 61, slices.Concat(ofShip, ofBegin)},
		} {
			for name, e := range asks(b, x.ship, x.minute) {
				is, wrong := e == api.ErrFairwayAsk, slices.Contains(x.wrong, name)
				if is != wrong || e == notZero || !wrong && (e == api.ErrFairwayFalse) != (i > 1) {
					t.Errorf("%s of %v of the book %d: %d", name, x, i, e)
				}
			}
		}
	}
	for name, e := range asks(lone(), 0, 0) {
		if (e == api.ErrFairwayAsk) != slices.Contains(ofShip, name) {
			t.Errorf("%s of no ship: %d", name, e)
		}
	}
}

// P4.1 to P4.7: of a book that cannot be true.
func TestFalse(t *testing.T) {
	for i, b := range []api.FairwayBook{
		example(torn()), example(mute()), example(mute(), sighted()), example(away(0, to(41, 42))), great(hear(to(103, 113)), sights()),
		example(sights(sight(0, 0, to(17, 19)))), example(sights(sight(0, 0, just(23)))), example(sights(sight(0, 9, just(5)))), example(sights(sight(1, 4, to(41, 42)))),
		example(hear(to(30, 39)), sighted()), // the ship that was seen was heard from 40 cables
		example(sights(sight(0, 0, just(20)), sight(0, 5, just(12)))), example(sights(sight(0, 200, just(120)))),
		example(sights(sight(1, 9, just(20)), sight(1, 14, just(5)))), // a ship that goes 4 cables a minute, and then 3
		example(sights(sight(0, 5, just(11)), sight(1, 9, just(26)))), // each of two ships was seen, one of them where it cannot be
	} {
		for _, all := range []map[string]api.Errno{asks(b, 0, 0), asks(b, 0, 60), tells(b)} {
			for name, e := range all {
				if e != api.ErrFairwayFalse {
					t.Errorf("%s of the book %d: %d", name, i, e)
				}
			}
		}
		if is, e := fairway.Right(b); is || e != api.OK {
			t.Errorf("Right of the book %d: %v, %d", i, is, e)
		}
	}
}

// P4.1
func TestHear(t *testing.T) {
	for i, x := range []struct {
		b    api.FairwayBook
		want api.Span
	}{
		{example(), to(36, 40)}, {example(sighted()), just(40)}, {example(hear(to(36, 40))), to(36, 40)}, {example(hear(to(37, 40))), to(37, 40)}, {example(hear(to(30, 36))), just(36)}, {example(hear(to(34, 44))), to(36, 44)}, {example(hear(to(60, 70))), to(60, 70)},
		{example(ships()), to(30, 40)}, {lone(), just(120)}, {example(gone(1)), to(30, 40)}, {example(sights(sight(1, 4, to(38, 39)))), to(38, 40)}, {example(sights(sight(0, 0, just(21)))), to(36, 40)},
		{example(away(0, to(35, 38))), to(36, 40)}, {example(away(0, to(38, 39))), to(38, 40)}, {example(sights(sight(1, 13, to(2, 3)))), to(38, 40)}, // the ship goes 4 cables a minute, or has passed the chain
		{great(), to(114, 120)}, {great(sights(sight(3, 60, just(117)))), to(117, 120)}, {great(hear(to(104, 114))), just(114)},
	} {
		if s, e := fairway.Hear(x.b); s != x.want || e != api.OK {
			t.Errorf("Hear %d: %v, %d", i, s, e)
		}
	}
}

// P4.2
func TestNear(t *testing.T) {
	slow := lone(ship(20, just(1), just(1)))
	for i, x := range []struct {
		b            api.FairwayBook
		ship, minute int
		want         int
	}{
		{example(), 0, 9, 0}, {example(), 0, 10, 1}, {example(), 0, 11, 1}, {example(), 0, 12, 0}, {example(), 1, 12, 0}, {example(), 1, 13, 1}, {example(), 1, 14, 1}, {example(), 1, 15, 0}, {example(), 1, 16, 1}, {example(), 1, 17, 1}, {example(), 1, 18, 0}, // it goes 4 cables a minute, or 3
		{example(hear(to(30, 36))), 1, 13, 1}, {example(hear(to(30, 36))), 1, 16, 1}, {example(hear(to(30, 36))), 1, 17, 0}, {example(hear(to(36, 42))), 1, 18, 1}, // a ship that was farther away was not heard
		{example(sighted()), 1, 14, 2}, {example(sighted()), 1, 13, 0}, {example(sighted()), 1, 15, 0}, {example(sighted()), 0, 10, 1},
		{example(breadth(0), away(0, to(20, 21))), 0, 10, 1}, {example(breadth(0), away(0, to(21, 21))), 0, 10, 0}, {example(breadth(0), away(0, to(21, 21))), 0, 11, 0}, {example(breadth(1), away(0, to(21, 21))), 0, 10, 2}, {example(breadth(1), away(0, to(21, 21))), 0, 11, 2},
		{slow, 0, 19, 0}, {slow, 0, 20, 0}, {slow, 0, 21, 2}, {slow, 0, 22, 0}, {with(slow, breadth(10)), 0, 0, 0}, {with(slow, breadth(10)), 0, 19, 0}, {with(slow, breadth(10)), 0, 20, 2}, {with(slow, breadth(10)), 0, 31, 2}, {with(slow, breadth(10)), 0, 32, 0}, // before it sounds it is not asked for
		{lone(ship(5, just(6), just(2))), 0, 8, 2}, {lone(ship(5, just(6), just(2))), 0, 2, 0}, {lone(ship(5, just(6), just(2))), 0, 7, 0}, {lone(ship(5, just(6), just(2))), 0, 9, 0}, {lone(ship(5, just(7), just(2))), 0, 8, 0}, {lone(ship(5, just(7), just(2))), 0, 9, 0}, {lone(ship(0, just(12), to(1, 3))), 0, 4, 1}, {lone(ship(0, just(12), to(1, 3))), 0, 5, 0}, {lone(ship(0, just(12), to(1, 3))), 0, 6, 1},
		{lone(ship(60, just(120), just(1))), 0, 180, 2}, {with(lone(ship(60, just(120), just(1))), breadth(10)), 0, 190, 2}, {with(lone(ship(60, just(120), just(1))), breadth(10)), 0, 191, 0}, {with(lone(ship(60, just(120), just(1))), breadth(10)), 0, 200, 0},
		{example(sights(sight(0, 10, just(0)))), 0, 10, 2}, {example(sights(sight(0, 20, just(20)))), 0, 11, 0}, {example(sights(sight(0, 20, to(19, 20)))), 0, 11, 1}, {example(sights(sight(0, 20, just(18)))), 0, 11, 2}, // it was seen when it had passed the chain
		{great(), 0, 69, 1}, {great(), 3, 60, 0}, {great(), 2, 73, 1}, {great(), 2, 74, 0}, {great(breadth(0), sights()), 2, 70, 1},
	} {
		if n, e := fairway.Near(x.b, x.ship, x.minute); n != x.want || e != api.OK {
			t.Errorf("Near %d: %d, %d", i, n, e)
		}
	}
}

// P4.3
func TestWhen(t *testing.T) {
	for i, x := range []struct {
		b    api.FairwayBook
		ship int
		want api.Span
	}{
		{example(), 0, to(10, 11)}, {example(), 1, to(13, 17)}, {example(sighted()), 1, just(14)}, {example(sighted()), 0, to(10, 11)}, {example(breadth(10)), 0, to(5, 16)}, {example(hear(to(36, 42))), 1, to(13, 18)}, {example(hear(to(30, 36))), 1, to(13, 16)},
		{example(sights(sight(1, 4, to(38, 39)))), 1, to(14, 17)}, {example(sights(sight(1, 16, just(12)))), 1, just(13)}, {lone(ship(5, just(1), just(1))), 0, just(6)}, {lone(ship(7, to(1, 2), just(1)), ship(0, just(4), just(2))), 0, to(8, 9)}, {lone(ship(7, to(1, 2), just(1)), ship(0, just(4), just(2))), 1, just(2)},
		{with(lone(ship(7, just(1), just(1))), breadth(1)), 0, to(7, 9)}, {with(lone(ship(7, just(1), just(1))), breadth(10)), 0, to(7, 18)}, {with(lone(ship(0, just(9), just(12))), breadth(9)), 0, to(0, 1)}, {with(lone(ship(0, just(120), just(12))), breadth(10)), 0, just(10)}, // it is near when it sounds
		{with(lone(ship(60, just(120), just(1))), breadth(10)), 0, to(170, 190)}, {lone(ship(0, just(12), to(1, 3))), 0, to(4, 12)}, {great(), 3, to(69, 73)}, {with(lone(ship(0, to(7, 8), just(3))), breadth(1)), 0, to(2, 3)},
	} {
		if s, e := fairway.When(x.b, x.ship); s != x.want || e != api.OK {
			t.Errorf("When %d: %v, %d", i, s, e)
		}
	}
	for i, b := range []api.FairwayBook{lone(ship(5, just(7), just(2))), lone(ship(0, just(7), to(2, 4))), with(lone(ship(60, just(24), just(7))), breadth(2)), lone(ship(0, just(119), just(12)), ship(0, just(4), just(1))), with(lone(ship(0, to(6, 7), just(6))), sights(sight(0, 0, just(7))))} {
		if s, e := fairway.When(b, 0); s != (api.Span{}) || e != api.ErrNone {
			t.Errorf("When of a ship that is never near, %d: %v, %d", i, s, e)
		}
	}
}

// clear is what is told of a crossing.
type clear struct {
	b     api.FairwayBook
	begin int
	clear int
	may   int // none if it is clear
	next  int // none if there is none
}

const none = -1

func noneOr(n int) answer {
	if n == none {
		return number(0, api.ErrNone)
	}
	return number(n, api.OK)
}

func (x clear) check(t *testing.T) {
	t.Helper()
	if n, e := fairway.Clear(x.b, x.begin); n != x.clear || e != api.OK {
		t.Errorf("Clear of %v, %d: %d, %d", x.b, x.begin, n, e)
	}
	if may := number(fairway.May(x.b, x.begin)); may != noneOr(x.may) {
		t.Errorf("May of %v, %d: %v", x.b, x.begin, may)
	}
	if next := number(fairway.Next(x.b, x.begin)); next != noneOr(x.next) {
		t.Errorf("Next of %v, %d: %v", x.b, x.begin, next)
	}
}

// P4.4 to P4.6
func TestClear(t *testing.T) {
	one := lone(ship(5, just(6), just(2)))    // near in the minute 8
	maybe := lone(ship(5, to(6, 8), just(2))) // near in the minute 8, or in 9, or never
	two := lone(ship(10, just(4), just(4)), ship(20, just(4), just(4)))
	late := lone(ship(50, just(12), to(1, 2))) // near in the minute 56, or in 62
	for _, x := range []clear{
		{example(), 0, 2, none, 0}, {example(), 3, 2, none, 3}, {example(), 4, 1, 10, 18}, {example(), 5, 0, 10, 18}, {example(), 10, 0, 10, 18}, {example(), 11, 1, 11, 18}, {example(), 12, 1, 13, 18}, {example(), 17, 1, 17, 18}, {example(), 18, 2, none, 18}, {example(), 60, 2, none, 60},
		{example(sighted()), 3, 2, none, 3}, {example(sighted()), 4, 1, 10, 15}, {example(sighted()), 8, 0, 10, 15}, {example(sighted()), 12, 0, 14, 15}, {example(sighted()), 14, 0, 14, 15}, {example(sighted()), 15, 2, none, 15},
		{lone(), 0, 2, none, 0}, {lone(), 60, 2, none, 60}, {example(ships(), cross(20), slack(15)), 7, 2, none, 7},
		{one, 5, 2, none, 5}, {one, 6, 0, 8, 9}, {one, 7, 0, 8, 9}, {one, 8, 0, 8, 9}, {one, 9, 2, none, 9}, {with(one, cross(1)), 7, 2, none, 7}, {with(one, cross(1)), 8, 0, 8, 9}, {with(one, slack(2)), 3, 2, none, 3}, {with(one, slack(2)), 4, 0, 8, 9}, {with(one, cross(1), slack(4)), 4, 0, 8, 9}, // from the minute in which it begins, for Cross and Slack together
		{maybe, 5, 2, none, 5}, {maybe, 6, 1, 8, 10}, {maybe, 7, 1, 8, 10}, {maybe, 9, 1, 9, 10}, {maybe, 10, 2, none, 10}, {with(maybe, sights(sight(0, 5, to(6, 7)))), 9, 2, none, 9}, {with(maybe, sights(sight(0, 5, just(7)))), 8, 2, none, 8},
		{with(maybe, breadth(1)), 8, 0, 8, 10}, {with(maybe, breadth(1)), 9, 1, 9, 10}, {with(maybe, breadth(1), cross(1)), 8, 1, 8, 10}, {with(maybe, breadth(1), cross(2)), 8, 0, 8, 10}, // near in the minute 8, or in 9, but not in neither
		{two, 8, 2, none, 8}, {two, 9, 0, 11, 12}, {two, 12, 2, none, 12}, {two, 18, 2, none, 18}, {two, 19, 0, 21, 22}, {two, 21, 0, 21, 22}, {with(two, cross(20)), 2, 0, 11, 22}, {with(two, cross(20)), 12, 0, 21, 22},
		{with(lone(ship(10, to(4, 5), just(4)), ship(12, just(4), just(4))), cross(1)), 11, 1, 11, 12}, {with(lone(ship(10, to(4, 5), just(4)), ship(12, just(4), just(4))), cross(3)), 11, 0, 11, 14}, {lone(ship(12, just(4), just(4)), ship(10, to(4, 5), just(4))), 11, 0, 11, 14}, {lone(ship(10, to(4, 5), just(4)), ship(12, to(4, 5), just(4))), 11, 1, 11, 14}, // both must be clear in one truth
		{with(lone(ship(20, just(1), just(1))), breadth(10)), 17, 2, none, 17}, {with(lone(ship(20, just(1), just(1))), breadth(10)), 18, 0, 20, 32}, {with(lone(ship(20, just(1), just(1))), breadth(10)), 31, 0, 31, 32}, // a ship is not asked for before its minute
		{late, 53, 2, none, 53}, {late, 54, 1, 56, 57}, {late, 56, 1, 56, 57}, {late, 59, 2, none, 59}, {late, 60, 1, 62, none}, {with(late, sights(sight(0, 60, just(2)))), 60, 0, 62, none}, {with(late, sights(sight(0, 60, just(8)))), 60, 2, none, 60}, {with(late, cross(5)), 57, 2, none, 57}, {with(late, cross(5)), 58, 1, 62, none},
		{great(), 60, 0, 69, none}, {great(), 0, 2, none, 0}, {great(), 34, 2, none, 34}, {great(), 35, 1, 69, none}, {great(), 36, 1, 69, none}, {great(cross(5), slack(4)), 60, 2, none, 60}, {great(cross(5), slack(5)), 60, 1, 69, none},
	} {
		x.check(t)
	}
}

// allBut returns all minutes in which a crossing can begin, but some.
func allBut(out ...api.Span) []int {
	l := []int{}
	for begin := range api.FairwayLast + 1 {
		if !slices.ContainsFunc(out, func(s api.Span) bool { return s.Low <= begin && begin <= s.High }) {
			l = append(l, begin)
		}
	}
	return l
}

// P4.7
func TestFree(t *testing.T) {
	for i, x := range []struct {
		b    api.FairwayBook
		want []int
	}{
		{example(), allBut(to(4, 17))}, {example(sighted()), allBut(to(4, 14))}, {example(cross(1), slack(0)), allBut(to(10, 11), to(13, 14), to(16, 17))}, {lone(), allBut()}, {lone(ship(5, just(6), just(2))), allBut(to(6, 8))}, {lone(ship(5, just(7), just(2))), allBut()},
		{lone(ship(10, just(4), just(4)), ship(20, just(4), just(4))), allBut(to(9, 11), to(19, 21))}, {lone(ship(50, just(12), to(1, 2))), allBut(to(54, 56), to(60, 60))}, {great(), allBut(to(35, 60))}, {lone(ship(0, just(1), just(1)), ship(60, just(1), just(1))), allBut(to(0, 1), to(59, 60))},
		{with(lone(ship(0, just(10), just(1)), ship(20, just(10), just(1)), ship(40, just(10), just(1)), ship(60, just(10), just(1))), breadth(10)), nil},
	} {
		if l, e := fairway.Free(x.b); !slices.Equal(l, x.want) || e != api.OK {
			t.Errorf("Free %d: %v, %d", i, l, e)
		}
	}
}

// P4.1 and P4.8
func TestWrong(t *testing.T) {
	ten, twelve, eight := sight(0, 5, just(10)), sight(0, 5, just(12)), sight(0, 6, just(8)) // the ship 0 was 20 cables away, or 22, or 20
	for i, x := range []struct {
		b    api.FairwayBook
		want []int
	}{
		{example(), nil}, {example(sighted()), nil}, {example(torn()), []int{0}}, {lone(), nil}, {great(), nil},
		{example(sights(sight(1, 9, just(20)), sight(1, 9, to(22, 26)))), []int{0}}, {example(sights(sight(1, 9, to(25, 26)), sight(1, 9, just(20)), sight(1, 9, just(20)))), []int{0}}, {example(sights(sight(1, 9, just(20)), sight(1, 9, to(25, 26)), sight(1, 9, just(20)))), []int{1}},
		{example(sights(sight(0, 0, just(19)))), []int{0}}, {example(sights(sight(1, 4, to(41, 42)))), []int{0}}, {example(hear(to(30, 39)), sighted()), []int{0}}, // it was farther away than a sound is heard
		{example(sights(ten, twelve)), []int{0}}, {example(sights(twelve, ten)), []int{0}}, {example(sights(ten, twelve, eight)), []int{1}}, {example(sights(twelve, ten, eight)), []int{0}}, {example(sights(ten, eight, twelve)), []int{2}}, {example(sights(ten, twelve, eight, twelve)), []int{0, 2}}, {example(sights(ten, twelve, twelve, eight)), []int{0, 3}},
		{example(sights(ten, sight(1, 9, just(9)), sight(1, 9, just(20)))), []int{1}}, {example(sights(sight(0, 9, just(9)), sight(1, 9, just(9)))), []int{0, 1}}, {example(sights(ten, twelve, sight(1, 9, just(9)))), []int{0, 2}},
		{example(sights(slices.Repeat([]api.FairwaySight{sight(0, 5, just(9))}, 5)...)), []int{0, 1, 2, 3, 4}}, {great(sights(sight(0, 70, just(120)), sight(1, 60, just(120)), sight(2, 200, to(114, 120)))), []int{0, 2}},
	} {
		if l, e := fairway.Wrong(x.b); !slices.Equal(l, x.want) || e != api.OK {
			t.Errorf("Wrong %d: %v, %d", i, l, e)
		}
		if is, e := fairway.Right(x.b); is != (len(x.want) == 0) || e != api.OK {
			t.Errorf("Right %d: %v, %d", i, is, e)
		}
	}
	for i, b := range []api.FairwayBook{example(mute()), example(mute(), sighted()), example(mute(), torn()), example(away(0, to(41, 42))), great(hear(to(103, 113))), with(lone(ship(0, just(2), just(1))), hear(just(1)))} {
		if l, e := fairway.Wrong(b); len(l) > 0 || e != api.ErrFairwayFalse {
			t.Errorf("Wrong of a ship that was not heard, %d: %v, %d", i, l, e)
		}
	}
}
