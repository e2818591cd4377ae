package landing_test

import (
	"slices"
	"testing"

	"prow/api"
	"prow/landing"
)

// great is as great as a book can be.
func great(changes ...change) api.LandingBook {
	shore := api.LandingShore{Floor: to(-40, -36), Low: -40, High: 80}
	return with(api.LandingBook{
		Tides:  slices.Repeat([]api.Span{to(76, 80)}, 24),
		Shores: [2]api.LandingShore{shore, shore},
		Empty:  to(36, 40),
		Sink:   20,
		Under:  10,
	}, changes...)
}

// P2.1: what is valid, up to each limit.
func TestValid(t *testing.T) {
	six := []api.LandingSound{sound(0, 0, 10), sound(0, 1, 6), sound(1, 0, 0), sound(3, 1, 120), sound(0, 0, 10), sound(2, 0, 17)}
	for i, b := range []api.LandingBook{
		example(), example(sounded()), example(torn()), great(), ditch(just(0)), ditch(just(-40), just(80)),
		example(tides(just(10))), example(tides(to(-40, -36))), example(tides(to(76, 80))), example(tides(to(-2, 2))),
		example(floor(0, to(-40, -36))), example(floor(1, to(76, 80))), example(reach(0, -40, 80)), example(reach(1, 80, 80)), example(reach(0, -40, -40)), example(reach(1, 7, 7)),
		example(empty(just(0))), example(empty(to(0, 4))), example(empty(to(36, 40))), example(sink(1)), example(sink(20)), example(under(0)), example(under(10)),
		example(sounds(six...)), great(sounds(sound(23, 1, 120), sound(23, 0, 0))),
	} {
		if e := landing.Check(b); e != api.OK {
			t.Errorf("Check of the valid book %d: %d", i, e)
		}
	}
}

// wrongBooks has a book beyond each limit.
func wrongBooks() []api.LandingBook {
	l := []api.LandingBook{
		{}, example(tides()), great(tides(slices.Repeat([]api.Span{just(0)}, 25)...)),
		example(sink(0)), example(sink(-1)), example(sink(21)), example(under(-1)), example(under(11)),
		example(empty(to(-1, 0))), example(empty(just(-1))), example(empty(to(40, 41))), example(empty(just(41))), example(empty(to(5, 10))), example(empty(to(6, 5))),
		example(sounds(slices.Repeat([]api.LandingSound{sound(0, 0, 10)}, 7)...)),
		example(sounds(sound(4, 0, 10))), example(sounds(sound(-1, 0, 10))), example(sounds(sound(0, 2, 10))), example(sounds(sound(0, -1, 10))), example(sounds(sound(0, 0, 121))), example(sounds(sound(0, 0, -1))),
		example(sounds(sound(0, 0, 10), sound(0, 0, 121))),
	}
	for _, s := range []api.Span{to(10, 15), to(12, 11), to(79, 81), just(81), to(-41, -40), just(-41), to(-40, 80)} {
		l = append(l, example(tides(s)), example(tides(just(10), s)), example(floor(0, s)), example(floor(1, s)))
	}
	for shore := range 2 {
		l = append(l, example(reach(shore, 12, 11)), example(reach(shore, -41, 20)), example(reach(shore, 10, 81)), example(reach(shore, 81, 81)), example(reach(shore, -41, -41)))
	}
	return l
}

// notZero is told in place of an error if an error came with another result.
const notZero api.Errno = -1

func told(zero bool, e api.Errno) api.Errno {
	if e != api.OK && !zero {
		return notZero
	}
	return e
}

// asks returns the errors of all functions that are asked for a shore, an hour or a load.
func asks(b api.LandingBook, shore, hour, load int) map[string]api.Errno {
	all := map[string]api.Errno{}
	height, e := landing.Height(b, hour)
	all["Height"] = told(height == api.Span{}, e)
	bottom, e := landing.Floor(b, shore)
	all["Floor"] = told(bottom == api.Span{}, e)
	n, e := landing.Lands(b, shore, hour, load)
	all["Lands"] = told(n == 0, e)
	most, e := landing.Most(b, shore, hour)
	all["Most"] = told(most == 0, e)
	first, e := landing.First(b, shore, load)
	all["First"] = told(first == 0, e)
	both, e := landing.Both(b, load)
	all["Both"] = told(len(both) == 0, e)
	return all
}

// P2.1, R1 and R2: of a wrong book all functions tell first, and return nothing else.
func TestWrongBook(t *testing.T) {
	for i, b := range wrongBooks() {
		if e := landing.Check(b); e != api.ErrLanding {
			t.Errorf("Check of the wrong book %d: %d", i, e)
		}
		for _, n := range []int{-1, 0} {
			for name, e := range asks(b, n, n, n) {
				if e != api.ErrLanding {
					t.Errorf("%s of the wrong book %d: %d", name, i, e)
				}
			}
		}
		if is, e := landing.Right(b); is || e != api.ErrLanding {
			t.Errorf("Right of the wrong book %d: %v, %d", i, is, e)
		}
		if l, e := landing.Wrong(b); len(l) > 0 || e != api.ErrLanding {
			t.Errorf("Wrong of the wrong book %d: %v, %d", i, l, e)
		}
	}
}

// P2.2 to P2.6 and R1: a wrong question comes before soundings that cannot be right.
func TestWrongQuestion(t *testing.T) {
	shores, hours, loads := []string{"Floor", "Lands", "Most", "First"}, []string{"Height", "Lands", "Most"}, []string{"Lands", "First", "Both"}
	for i, b := range []api.LandingBook{example(), example(sounded()), example(torn())} {
		proper := landing.Check(b)
		if i == 2 {
			proper = api.ErrLandingFalse
		}
		for _, x := range []struct {
			shore, hour, load int
			wrong             []string
		}{
			{-1, 1, 0, shores}, {2, 1, 0, shores}, {0, -1, 0, hours}, {0, 4, 0, hours}, {0, 1, -1, loads}, {0, 1, 201, loads},
			{0, 1, 0, nil}, {1, 3, 20, nil}, {-1, -1, -1, slices.Concat(shores, hours, loads)}, {2, 4, 201, slices.Concat(shores, hours, loads)},
		} {
			for name, e := range asks(b, x.shore, x.hour, x.load) {
				want := proper
				if slices.Contains(x.wrong, name) {
					want = api.ErrLandingAsk
				}
				if e != want {
					t.Errorf("%s of %v of the book %d: %d", name, x, i, e)
				}
			}
		}
	}
	for shore := range 2 {
		if n, e := landing.Lands(example(), shore, 3, 200); n != 0 || e != api.OK {
			t.Errorf("Lands with 200: %d, %d", n, e)
		}
	}
}

// P2.2 to P2.6: of a book that cannot be true.
func TestFalse(t *testing.T) {
	for i, b := range []api.LandingBook{
		example(torn()), example(sounds(sound(0, 0, 11))), example(sounds(sound(3, 1, 10))), example(sounds(sound(0, 0, 10), sound(0, 0, 9))),
		example(sounds(sound(0, 0, 10), sound(1, 0, 11))), // the first wants the floor 2, the second the floor 3
		great(sounds(sound(23, 0, 111))), with(ditch(just(0), just(5)), sounds(sound(1, 0, 6))),
	} {
		for name, e := range asks(b, 0, 0, 0) {
			if e != api.ErrLandingFalse {
				t.Errorf("%s of the book %d: %d", name, i, e)
			}
		}
		if is, e := landing.Right(b); is || e != api.OK {
			t.Errorf("Right of the book %d: %v, %d", i, is, e)
		}
	}
}

// P2.2
func TestHeightAndFloor(t *testing.T) {
	for i, x := range []struct {
		b           api.LandingBook
		hour, shore int
		height      api.Span
		floor       api.Span
	}{
		{example(), 0, 0, to(10, 12), to(2, 3)}, {example(), 1, 1, to(14, 15), to(4, 5)}, {example(), 3, 0, to(16, 17), to(2, 3)},
		{example(sounded()), 0, 0, just(12), just(2)}, {example(sounded()), 1, 1, to(14, 15), to(4, 5)},
		{example(sounds(sound(0, 0, 9))), 0, 0, to(11, 12), to(2, 3)}, {example(sounds(sound(0, 0, 8))), 0, 0, to(10, 11), to(2, 3)}, {example(sounds(sound(0, 0, 7))), 0, 0, just(10), just(3)},
		{example(sounds(sound(1, 0, 12), sound(1, 1, 10))), 1, 1, to(14, 15), to(4, 5)}, {example(sounds(sound(1, 0, 12), sound(1, 1, 9))), 1, 1, just(14), just(5)}, {example(sounds(sound(1, 0, 12), sound(1, 1, 9))), 0, 0, to(10, 12), just(2)},
		{example(sounds(sound(1, 0, 12), sound(1, 1, 9), sound(0, 0, 9))), 0, 0, just(11), just(2)}, // the floor that the hour 1 tells is that of the hour 0, too
		{example(sounds(sound(0, 0, 10), sound(3, 0, 15), sound(3, 1, 13))), 3, 1, just(17), just(4)},
		{example(sounds(sound(0, 0, 9), sound(0, 0, 9))), 0, 0, to(11, 12), to(2, 3)},
		{example(floor(0, to(-3, 1)), sounds(sound(0, 0, 14))), 0, 0, to(11, 12), to(-3, -2)}, {great(), 23, 1, to(76, 80), to(-40, -36)}, {great(sounds(sound(23, 1, 120))), 23, 1, just(80), just(-40)}, {great(sounds(sound(23, 1, 112))), 0, 0, to(76, 80), to(-40, -36)},
	} {
		if s, e := landing.Height(x.b, x.hour); s != x.height || e != api.OK {
			t.Errorf("Height %d: %v, %d", i, s, e)
		}
		if s, e := landing.Floor(x.b, x.shore); s != x.floor || e != api.OK {
			t.Errorf("Floor %d: %v, %d", i, s, e)
		}
	}
}

// P2.3
func TestLands(t *testing.T) {
	for i, x := range []struct {
		b                 api.LandingBook
		shore, hour, load int
		want              int
	}{
		{example(), 0, 1, 20, 2}, {example(), 0, 1, 40, 2}, {example(), 0, 1, 41, 1}, {example(), 0, 1, 70, 1}, {example(), 0, 1, 71, 0}, {example(), 0, 0, 0, 2}, {example(), 0, 0, 1, 1},
		{example(), 1, 0, 0, 1}, {example(), 1, 0, 40, 0}, {example(), 0, 2, 0, 1}, {example(), 1, 2, 60, 2}, {example(), 1, 2, 61, 1},
		{example(sounded()), 0, 0, 30, 2}, {example(sounded()), 1, 0, 0, 2}, {example(sounded()), 1, 0, 1, 1}, {example(sounded()), 1, 0, 20, 1}, {example(sounded()), 1, 0, 21, 0},
		{example(reach(0, 10, 20)), 0, 2, 0, 2}, {example(reach(0, 10, 17)), 0, 2, 0, 0}, {example(reach(0, 10, 18)), 0, 2, 0, 1}, // at high water the prow does not meet the slip
		{example(reach(0, 14, 19)), 0, 1, 0, 2}, {example(reach(0, 15, 19)), 0, 1, 0, 1}, {example(reach(0, 16, 19)), 0, 1, 0, 0}, {example(reach(0, 15, 19)), 0, 1, 70, 1}, {example(reach(0, 14, 14)), 0, 1, 61, 0},
		{example(under(0)), 0, 1, 50, 2}, {example(under(10)), 0, 1, 0, 0}, {example(empty(just(6))), 0, 1, 61, 0}, {example(empty(just(6))), 0, 1, 60, 1}, {example(empty(just(5))), 0, 1, 50, 2},
		{ditch(just(5)), 0, 0, 3, 2}, {ditch(just(5)), 0, 0, 4, 0}, {ditch(just(2)), 1, 0, 0, 2}, {ditch(just(1)), 1, 0, 0, 0}, {ditch(to(4, 6)), 1, 0, 2, 2}, {ditch(to(4, 6)), 1, 0, 3, 1}, {ditch(to(4, 6)), 1, 0, 5, 0},
		{with(ditch(just(6)), sink(20)), 0, 0, 80, 2}, {with(ditch(just(6)), sink(20)), 0, 0, 81, 0}, {great(), 0, 23, 200, 2}, {great(sink(1)), 0, 23, 62, 2}, {great(sink(1)), 0, 23, 63, 1}, {great(sink(1)), 0, 23, 74, 1}, {great(sink(1)), 0, 23, 75, 0},
	} {
		if n, e := landing.Lands(x.b, x.shore, x.hour, x.load); n != x.want || e != api.OK {
			t.Errorf("Lands %d: %d, %d", i, n, e)
		}
	}
}

// P2.4
func TestMost(t *testing.T) {
	for i, x := range []struct {
		b           api.LandingBook
		shore, hour int
		want        int // -1: there is none
	}{
		{example(), 0, 1, 40}, {example(), 1, 1, 20}, {example(), 1, 0, -1}, {example(), 0, 2, -1}, {example(), 1, 2, 60}, {example(), 0, 0, 0}, {example(), 0, 3, 60}, {example(sounded()), 0, 0, 30}, {example(sounded()), 1, 0, 0},
		{ditch(just(80)), 0, 0, 78}, {ditch(to(1, 2)), 0, 0, -1}, {ditch(just(2)), 0, 0, 0}, {ditch(just(3)), 1, 0, 1}, {with(ditch(just(12)), sink(20)), 0, 0, 200}, {with(ditch(just(11)), sink(20)), 0, 0, 180}, {with(ditch(just(12)), sink(19)), 0, 0, 190},
		{great(), 0, 0, 200}, {great(sink(1)), 1, 23, 62}, {great(sink(3)), 1, 23, 186},
	} {
		n, e := landing.Most(x.b, x.shore, x.hour)
		if x.want < 0 && (n != 0 || e != api.ErrNone) || x.want >= 0 && (n != x.want || e != api.OK) {
			t.Errorf("Most %d: %d, %d", i, n, e)
		}
	}
}

// P2.5 and P2.6
func TestFirstAndBoth(t *testing.T) {
	for i, x := range []struct {
		b           api.LandingBook
		shore, load int
		first       int // -1: there is none
		both        []int
	}{
		{example(), 0, 30, 1, []int{3}}, {example(), 1, 30, 2, []int{3}}, {example(), 0, 50, 3, nil}, {example(), 1, 50, 2, nil}, {example(), 0, 60, 3, nil}, {example(), 0, 61, -1, nil}, {example(), 0, 0, 0, []int{1, 3}}, {example(), 0, 20, 1, []int{1, 3}}, {example(), 1, 20, 1, []int{1, 3}}, {example(), 1, 0, 1, []int{1, 3}},
		{example(sounded()), 0, 0, 0, []int{0, 1, 3}}, {example(sounded()), 1, 0, 0, []int{0, 1, 3}}, {example(), 1, 200, -1, nil},
		{ditch(just(5), just(9), just(5)), 0, 4, 1, []int{1}}, {ditch(just(5), just(9), just(5)), 0, 8, -1, nil}, {ditch(just(9)), 1, 7, 0, []int{0}},
		{with(ditch(just(5), just(9), just(12)), reach(0, 0, 9), reach(1, 9, 12)), 0, 0, 0, []int{1}},
	} {
		n, e := landing.First(x.b, x.shore, x.load)
		if x.first < 0 && (n != 0 || e != api.ErrNone) || x.first >= 0 && (n != x.first || e != api.OK) {
			t.Errorf("First %d: %d, %d", i, n, e)
		}
		if l, e := landing.Both(x.b, x.load); !slices.Equal(l, x.both) || e != api.OK {
			t.Errorf("Both %d: %v, %d", i, l, e)
		}
	}
	if l, e := landing.Both(great(), 200); len(l) != 24 || e != api.OK {
		t.Errorf("Both of the great book: %v, %d", l, e)
	}
}

// P2.1 and P2.7
func TestWrong(t *testing.T) {
	for i, x := range []struct {
		b    api.LandingBook
		want []int
	}{
		{example(), nil}, {example(sounded()), nil}, {example(torn()), []int{0}}, {ditch(just(5), just(7)), nil},
		{example(sounds(sound(0, 1, 6), sound(0, 0, 10))), []int{0}}, {example(sounds(sound(0, 0, 11))), []int{0}},
		{example(sounds(sound(0, 0, 10), sound(0, 0, 9), sound(0, 0, 10))), []int{1}}, {example(sounds(sound(0, 0, 10), sound(0, 0, 9))), []int{0}}, {example(sounds(sound(0, 0, 10), sound(0, 0, 9), sound(0, 0, 9))), []int{0}},
		{example(sounds(sound(0, 0, 10), sound(0, 0, 11))), []int{1}}, {example(sounds(sound(1, 0, 11), sound(1, 1, 11), sound(0, 0, 30))), []int{0, 2}},
		{example(sounds(sound(0, 0, 10), sound(1, 0, 11), sound(2, 0, 18), sound(3, 0, 13))), []int{0, 2}}, // the soundings 0 and 2 want the floor 2, the others 3
		{example(sounds(slices.Repeat([]api.LandingSound{sound(0, 0, 0)}, 6)...)), []int{0, 1, 2, 3, 4, 5}},
		{great(sounds(sound(23, 1, 120), sound(0, 0, 112), sound(23, 1, 119))), []int{0}},
	} {
		if l, e := landing.Wrong(x.b); !slices.Equal(l, x.want) || e != api.OK {
			t.Errorf("Wrong %d: %v, %d", i, l, e)
		}
		if is, e := landing.Right(x.b); is != (len(x.want) == 0) || e != api.OK {
			t.Errorf("Right %d: %v, %d", i, is, e)
		}
	}
}
