package coal_test

import (
	"slices"
	"testing"

	"prow/api"
	"prow/coal"
)

// P6.1: what is valid, up to each limit.
func TestValid(t *testing.T) {
	for i, b := range []api.CoalBook{
		example(), example(dipped()), example(torn()), great(), plain(just(0), 0), plain(just(400), 9, 9, 9, 9, 9, 9),
		example(heap(to(0, 4))), example(heap(to(396, 400))), example(heap(just(400))),
		example(eats(0, to(0, 2)), eats(1, to(7, 9))), example(eats(0, just(9)), eats(1, just(0))), example(extra(0, 9), extra(1, 0), extra(2, 9)),
		example(crosses(0, 0), crosses(2, 9)), example(engines(0, one), engines(1, other), engines(2, both)),
		example(winds(0, calm), winds(1, breeze), winds(2, gale)), example(winds(0, calm|gale), winds(1, breeze|gale), winds(2, calm|breeze|gale)),
		example(comes(0, 0)), example(comes(3, 3)), example(comes(0, 3)), great(comes(0, 3)), great(comes(6, 6)), example(brings(0)), example(brings(400)),
		example(dips(dip(0, 0, 0))), example(dips(dip(2, 800, 9))), example(dips(dip(1, 5, 9), dip(1, 5, 9), dip(0, 800, 0), dip(0, 0, 0))),
	} {
		if e := coal.Check(b); e != api.OK {
			t.Errorf("Check of the valid book %d: %d", i, e)
		}
	}
}

// wrongSpans returns spans that are not from 0 to high, or whose ends are farther apart than wide.
func wrongSpans(high, wide int) []api.Span {
	return []api.Span{to(-1, 0), just(-1), to(1, 0), to(high, high-1), to(high, high+1), just(high + 1), to(0, wide+1), to(high-wide-1, high), to(-wide, 0), to(high+1, 0)}
}

// wrongDips has a measure beyond each limit, for books of three days.
func wrongDips() []api.CoalDip {
	return []api.CoalDip{dip(-1, 5, 0), dip(3, 5, 0), dip(99, 5, 0), dip(0, -1, 0), dip(0, 801, 0), dip(0, -1, 9), dip(0, 5, -1), dip(0, 5, 10), dip(3, 801, 10)}
}

// wrongBooks has a book beyond each limit.
func wrongBooks() []api.CoalBook {
	l := []api.CoalBook{
		{}, example(days()), great(days(slices.Repeat([]api.CoalDay{on(1, one, calm)}, 7)...), dips()), great(days(slices.Repeat([]api.CoalDay{on(1, one, calm)}, 5)...), comes(3, 6), dips()),
		example(brings(-1)), example(brings(401)), example(days(on(2, both, calm)), comes(1, 2)), example(days(on(2, both, calm)), comes(2, 2)), great(comes(2, 6)), great(comes(0, 4)),
		example(dips(slices.Repeat([]api.CoalDip{dip(0, 16, 0)}, 5)...)), great(more(dip(0, 0, 0))),
	}
	for _, s := range wrongSpans(api.CoalHeap, api.CoalWide) {
		l = append(l, example(heap(s)))
	}
	for _, s := range wrongSpans(api.CoalEats, api.CoalLoose) {
		l = append(l, example(eats(0, s)), example(eats(1, s)))
	}
	for _, s := range wrongSpans(3, 3) {
		l = append(l, example(comes(s.Low, s.High)))
	}
	for n := range 3 {
		l = append(l,
			example(extra(n, -1)), example(extra(n, 10)), example(crosses(n, -1)), example(crosses(n, 10)),
			example(engines(n, 0)), example(engines(n, 4)), example(engines(n, 5)), example(engines(n, -1)), example(winds(n, 0)), example(winds(n, 8)), example(winds(n, 9)), example(winds(n, -1)))
	}
	for _, d := range wrongDips() {
		l = append(l, example(dips(d)), example(dips(dip(0, 16, 0), d)), example(dips(d, dip(0, 16, 0))))
	}
	return l
}

// notZero is told in place of an error if an error came with another result.
const notZero api.Errno = -1

func told(zero bool, e api.Errno) api.Errno {
	if e != api.OK && !zero {
		return notZero
	}
	return e
}

// asks returns the errors of all functions that are asked something: of a day, and of an engine.
func asks(b api.CoalBook, day, engine int) map[string]api.Errno {
	all := map[string]api.Errno{}
	heap, e := coal.Heap(b, day)
	all["Heap"] = told(heap == api.Span{}, e)
	eats, e := coal.Eats(b, engine)
	all["Eats"] = told(eats == api.Span{}, e)
	wind, e := coal.Wind(b, day)
	all["Wind"] = told(wind == 0, e)
	lasts, e := coal.Lasts(b, day)
	all["Lasts"] = told(lasts == 0, e)
	return all
}

// tells returns the errors of all others.
func tells(b api.CoalBook) map[string]api.Errno {
	all := map[string]api.Errno{}
	right, e := coal.Right(b)
	all["Right"] = told(!right, e)
	day, e := coal.Day(b)
	all["Day"] = told(day == 0, e)
	order, e := coal.Order(b)
	all["Order"] = told(order == 0, e)
	late, e := coal.Late(b)
	all["Late"] = told(late == 0, e)
	wrong, e := coal.Wrong(b)
	all["Wrong"] = told(len(wrong) == 0, e)
	return all
}

// P6.1, R1 and R2: of a wrong book all functions tell first, and return nothing else.
func TestWrongBook(t *testing.T) {
	for i, b := range wrongBooks() {
		if e := coal.Check(b); e != api.ErrCoal {
			t.Errorf("Check of the wrong book %d: %d", i, e)
		}
		for _, all := range []map[string]api.Errno{asks(b, 0, 0), asks(b, -1, 2), tells(b)} {
			for name, e := range all {
				if e != api.ErrCoal {
					t.Errorf("%s of the wrong book %d: %d", name, i, e)
				}
			}
		}
	}
}

// P6.2, P6.3 and R1: a wrong question comes before measures that cannot be right.
func TestWrongQuestion(t *testing.T) {
	for i, b := range []api.CoalBook{example(), example(dipped()), example(torn()), example(dips(dip(2, 800, 9)))} {
		for _, day := range []int{-1, 3, 4, 6, -99, 99} {
			for _, engine := range []int{-1, 2, 3, 99} {
				for name, e := range asks(b, day, engine) {
					if e != api.ErrCoalAsk {
						t.Errorf("%s of the book %d, %d, %d: %d", name, i, day, engine, e)
					}
				}
			}
		}
		for day := range 3 {
			for engine := range 2 {
				for name, e := range asks(b, day, engine) {
					if e == api.ErrCoalAsk || e == notZero {
						t.Errorf("%s of the book %d, %d, %d: %d", name, i, day, engine, e)
					}
				}
			}
		}
	}
	if _, e := coal.Heap(plain(just(5), 1), 1); e != api.ErrCoalAsk {
		t.Errorf("Heap of a day behind the last one: %d", e)
	}
}

// P6.1 to P6.6: of a book that cannot be true.
func TestFalse(t *testing.T) {
	for i, b := range []api.CoalBook{
		example(torn()), example(dips(dip(0, 9, 0))), example(dips(dip(0, 17, 0))), example(dips(dip(0, 18, 1))), example(dips(dip(0, 7, 2))), example(dips(dip(2, 8, 0))), example(dips(dip(2, 17, 9))), example(dips(dip(0, 800, 9))),
		example(dips(dip(0, 12, 0), dip(0, 13, 0))), example(dips(dip(0, 12, 1), dip(0, 15, 1))), // each of them alone is right
		example(dips(dip(0, 11, 0), dip(1, 9, 0))), example(dips(dip(1, 9, 0), dip(0, 11, 0))), // an engine that eats so much at first still does
		example(comes(1, 1), dips(dip(0, 16, 0), dip(1, 10, 0))), example(comes(2, 2), dips(dip(0, 16, 0), dip(1, 15, 0))), example(brings(4), dips(dip(0, 16, 0), dip(1, 15, 0))), // the collier has come, or not
		with(plain(just(3), 4), dips(dip(0, 0, 0))), with(plain(just(3), 4), dips(dip(0, 1, 1))), with(plain(to(3, 5), 4), dips(dip(0, 2, 0))), with(plain(to(3, 5), 9, 9), dips(dip(1, 0, 9))), // so much lacks
		with(plain(to(3, 5), 2, 0, 4), dips(dip(0, 1, 0), dip(1, 2, 0))), with(plain(just(9), 1, 1), dips(dip(0, 8, 0), dip(1, 8, 0))), great(dips(dip(5, 3, 0))), great(dips(dip(5, 9, 0))),
	} {
		for _, all := range []map[string]api.Errno{asks(b, 0, 0), tells(b)} {
			for name, e := range all {
				isTold := name == "Right" || name == "Wrong"
				if isTold && e != api.OK || !isTold && e != api.ErrCoalFalse {
					t.Errorf("%s of the book %d: %d", name, i, e)
				}
			}
		}
		if right, e := coal.Right(b); right || e != api.OK {
			t.Errorf("Right of the book %d: %v, %d", i, right, e)
		}
	}
}

// P6.2
func TestHeapAndWind(t *testing.T) {
	every := calm | breeze | gale
	for i, x := range []struct {
		b    api.CoalBook
		day  int
		heap api.Span
		wind int
	}{
		{example(), 0, to(10, 16), calm | breeze}, {example(), 1, to(1, 15), breeze}, {example(), 2, to(-8, 7), breeze | gale},
		{example(dipped()), 0, just(16), calm}, {example(dipped()), 1, to(10, 15), breeze}, {example(dipped()), 2, to(3, 7), breeze | gale},
		{example(comes(0, 0)), 0, to(15, 21), calm | breeze}, {example(comes(0, 0)), 1, to(6, 15), breeze}, {example(comes(3, 3)), 2, to(-13, 2), breeze | gale}, {example(comes(0, 3)), 2, to(-13, 7), breeze | gale}, {example(comes(2, 3)), 1, to(1, 10), breeze}, {example(brings(0)), 1, to(1, 10), breeze}, {example(comes(0, 0), brings(400)), 0, to(410, 416), calm | breeze}, // from the end of the day on which the collier comes
		{example(crosses(0, 0)), 0, to(20, 22), calm | breeze}, {example(crosses(0, 0), dips(dip(0, 20, 0))), 0, just(20), calm | breeze}, {example(crosses(0, 1)), 0, to(15, 19), calm | breeze}, // wind without crossings costs nothing
		{example(engines(0, one)), 0, to(14, 20), calm | breeze}, {example(engines(0, other)), 0, to(14, 18), calm | breeze}, {example(eats(1, to(1, 3))), 0, to(8, 18), calm | breeze}, {example(eats(0, just(0)), engines(0, one)), 0, to(18, 22), calm | breeze},
		{example(extra(0, 9)), 0, to(-6, 14), calm | breeze}, {example(winds(0, gale)), 0, to(6, 10), gale}, {example(winds(0, calm|gale)), 0, to(6, 16), calm | gale}, {example(winds(0, every)), 0, to(6, 16), every}, {example(winds(0, every), dips(dip(0, 9, 0))), 0, just(9), gale}, {example(winds(0, every), dips(dip(0, 10, 0))), 0, just(10), breeze | gale},
		{example(dips(dip(2, 7, 0))), 0, just(16), calm}, {example(dips(dip(2, 7, 0))), 1, to(10, 15), breeze}, {example(dips(dip(2, 7, 0))), 2, just(7), breeze}, {example(dips(dip(1, 1, 0))), 0, just(10), breeze}, {example(dips(dip(1, 1, 0))), 2, to(-8, -4), breeze | gale}, // a measure tells of days before, too
		{example(dips(dip(0, 11, 0))), 0, just(11), breeze}, {example(dips(dip(0, 12, 0))), 0, just(12), calm | breeze}, {example(dips(dip(0, 17, 1))), 0, just(16), calm}, {example(dips(dip(0, 12, 2), dip(0, 15, 1))), 0, just(14), calm | breeze}, {example(dips(dip(0, 13, 2))), 0, to(11, 15), calm | breeze},
		{example(dips(dip(2, 0, 0))), 2, just(0), breeze | gale}, {example(dips(dip(2, 0, 7))), 2, to(-7, 7), breeze | gale}, {example(dips(dip(2, 1, 9))), 2, to(-8, 7), breeze | gale}, {example(dips(dip(2, 1, 8))), 2, to(-7, 7), breeze | gale},
		{plain(to(3, 5), 2, 0, 4), 0, to(1, 3), calm}, {plain(to(3, 5), 2, 0, 4), 1, to(1, 3), calm}, {plain(to(3, 5), 2, 0, 4), 2, to(-3, -1), calm}, {with(plain(to(3, 5), 2, 0, 4), dips(dip(2, 0, 2))), 0, to(2, 3), calm}, {plain(just(0), 0), 0, just(0), calm},
		{great(dips()), 5, to(-1062, 44), every}, {great(dips()), 2, to(-333, 22), every}, {great(), 5, to(4, 8), calm | breeze}, {great(), 0, to(234, 274), calm | breeze}, {great(dips(), comes(6, 6)), 5, to(-1062, -356), every},
	} {
		if s, e := coal.Heap(x.b, x.day); s != x.heap || e != api.OK {
			t.Errorf("Heap %d: %v, %d", i, s, e)
		}
		if n, e := coal.Wind(x.b, x.day); n != x.wind || e != api.OK {
			t.Errorf("Wind %d: %d, %d", i, n, e)
		}
	}
}

// P6.2
func TestEats(t *testing.T) {
	for i, x := range []struct {
		b          api.CoalBook
		one, other api.Span
	}{
		{example(), to(1, 2), just(2)}, {example(dipped()), just(1), just(2)}, {example(dips(dip(0, 10, 0))), just(2), just(2)}, {example(dips(dip(0, 12, 0))), to(1, 2), just(2)}, {example(dips(dip(2, 7, 0))), just(1), just(2)}, {example(dips(dip(1, 0, 1))), just(2), just(2)},
		{example(eats(1, to(1, 3)), dips(dip(0, 18, 0))), just(1), just(1)}, {example(eats(1, to(1, 3)), dips(dip(0, 8, 0))), just(2), just(3)}, {example(eats(1, to(1, 3)), dips(dip(0, 17, 0))), just(1), just(1)}, {example(eats(1, to(1, 3)), dips(dip(0, 16, 0))), to(1, 2), to(1, 2)}, // the two of them can eat as much in several ways
		{plain(just(5), 1), just(1), just(9)}, {with(plain(just(5), 1), eats(1, to(7, 9)), dips(dip(0, 4, 0))), just(1), to(7, 9)}, {with(plain(just(5), 0), eats(0, to(0, 2)), dips(dip(0, 5, 0))), to(0, 2), just(9)}, // it does not work
		{great(dips()), to(7, 9), to(7, 9)}, {great(), just(7), just(7)},
	} {
		for engine, want := range []api.Span{x.one, x.other} {
			if s, e := coal.Eats(x.b, engine); s != want || e != api.OK {
				t.Errorf("Eats %d, %d: %v, %d", i, engine, s, e)
			}
		}
	}
}

// P6.3 to P6.6
func TestLasts(t *testing.T) {
	late := with(plain(just(3), 4, 1), brings(9))       // coal lacks on the day 0 unless the collier comes
	slow := with(plain(just(5), 2, 2, 2, 2), brings(3)) // it lacks from the day 2 on, unless the collier comes
	day := func(n int) answer { return number(n, api.OK) }
	for i, x := range []struct {
		b     api.CoalBook
		lasts []int
		day   answer
		order int
		late  answer
	}{
		{example(), []int{2, 2, 1}, day(2), 8, none()}, {example(dipped()), []int{2, 2, 2}, none(), 0, day(2)}, {example(dips(dip(1, 1, 0))), []int{2, 2, 0}, day(2), 8, day(1)}, {example(dips(dip(2, 0, 0))), []int{2, 2, 2}, none(), 0, day(2)}, {example(dips(dip(2, 0, 1))), []int{2, 2, 1}, day(2), 1, none()},
		{example(brings(13)), []int{2, 2, 2}, none(), 0, day(2)}, {example(brings(12)), []int{2, 2, 1}, day(2), 1, none()}, {example(brings(13), comes(1, 3)), []int{2, 2, 1}, day(2), 13, day(2)}, {example(brings(13), comes(3, 3)), []int{2, 2, 1}, day(2), 13, none()}, {example(brings(13), comes(0, 3)), []int{2, 2, 1}, day(2), 13, day(2)}, {example(comes(0, 3)), []int{2, 2, 1}, day(2), 13, none()},
		{plain(to(3, 5), 2, 0, 4), []int{2, 2, 0}, day(2), 3, none()}, {plain(just(6), 2, 0, 4), []int{2, 2, 2}, none(), 0, day(3)}, {plain(just(5), 2, 0, 4), []int{2, 2, 0}, day(2), 1, none()}, {plain(to(5, 6), 2, 0, 4), []int{2, 2, 1}, day(2), 1, none()}, {plain(to(3, 5), 4), []int{1}, day(0), 1, none()}, {plain(just(3), 4), []int{0}, day(0), 1, none()}, {plain(just(0), 0), []int{2}, none(), 0, day(1)}, {plain(just(4), 4, 0, 0), []int{2, 2, 2}, none(), 0, day(3)},
		{with(late, comes(0, 0)), []int{2, 2}, none(), 0, day(0)}, {with(late, comes(1, 1)), []int{0, 0}, day(0), 1, none()}, {with(late, comes(0, 1)), []int{1, 1}, day(0), 1, day(0)}, {with(late, comes(0, 1), dips(dip(0, 0, 1))), []int{0, 0}, day(0), 1, day(0)}, {with(late, comes(0, 1), dips(dip(0, 8, 0))), []int{2, 2}, none(), 0, day(1)}, {with(late, comes(0, 2), dips(dip(1, 0, 2))), []int{0, 0}, day(0), 2, day(1)}, // what lacked before is not made good
		{with(slow, comes(0, 0)), []int{2, 2, 2, 2}, none(), 0, day(0)}, {with(slow, comes(2, 2)), []int{2, 2, 2, 2}, none(), 0, day(2)}, {with(slow, comes(0, 3)), []int{2, 2, 1, 1}, day(2), 1, day(2)}, {with(slow, comes(2, 4)), []int{2, 2, 1, 1}, day(2), 3, day(2)}, {with(slow, comes(1, 2)), []int{2, 2, 2, 2}, none(), 0, day(2)}, {with(slow, comes(3, 3)), []int{2, 2, 0, 0}, day(2), 1, none()}, {with(slow, comes(4, 4)), []int{2, 2, 0, 0}, day(2), 3, none()}, {with(slow, brings(2), comes(1, 4)), []int{2, 2, 1, 0}, day(2), 3, none()},
		{with(slow, comes(1, 4), dips(dip(3, 0, 0))), []int{2, 2, 1, 1}, day(2), 1, day(2)}, {with(slow, comes(1, 4), dips(dip(2, 2, 0))), []int{2, 2, 2, 2}, none(), 0, day(4)}, {with(slow, comes(1, 4), dips(dip(2, 0, 1))), []int{2, 2, 0, 0}, day(2), 3, day(2)},
		{great(dips()), []int{2, 1, 1, 1, 1, 1}, day(1), 1062, none()}, {great(dips(), comes(6, 6)), []int{2, 1, 1, 0, 0, 0}, day(1), 1062, none()}, {great(), []int{2, 2, 1, 1, 1, 1}, day(2), 270, none()},
	} {
		for on, want := range x.lasts {
			if n, e := coal.Lasts(x.b, on); n != want || e != api.OK {
				t.Errorf("Lasts %d, %d: %d, %d", i, on, n, e)
			}
		}
		if got := number(coal.Day(x.b)); got != x.day {
			t.Errorf("Day %d: %v", i, got)
		}
		if n, e := coal.Order(x.b); n != x.order || e != api.OK {
			t.Errorf("Order %d: %d, %d", i, n, e)
		}
		if got := number(coal.Late(x.b)); got != x.late {
			t.Errorf("Late %d: %v", i, got)
		}
	}
}

// P6.1 and P6.7
func TestWrong(t *testing.T) {
	ten, twelve, far := dip(0, 10, 0), dip(0, 12, 0), dip(0, 99, 0)
	for i, x := range []struct {
		b    api.CoalBook
		want []int
	}{
		{example(), nil}, {example(dipped()), nil}, {example(torn()), []int{0}}, {example(dips(dip(1, 9, 0), dip(0, 16, 0))), []int{0}}, {example(dips(dip(0, 17, 0))), []int{0}}, {example(dips(dip(0, 17, 1))), nil}, {plain(just(9), 4, 4, 4), nil}, {great(), nil}, {great(dips()), nil},
		{example(dips(ten, twelve)), []int{0}}, {example(dips(twelve, ten)), []int{0}}, {example(dips(ten, twelve, twelve)), []int{0}}, {example(dips(twelve, ten, twelve)), []int{1}}, {example(dips(twelve, twelve, ten)), []int{2}}, {example(dips(ten, twelve, ten, twelve)), []int{0, 2}}, {example(dips(ten, twelve, twelve, ten)), []int{0, 3}}, {example(dips(twelve, dip(0, 13, 0), dip(0, 12, 1))), []int{0}},
		{example(dips(far)), []int{0}}, {example(dips(ten, far)), []int{1}}, {example(dips(far, ten, far, ten)), []int{0, 2}}, {example(dips(far, ten, twelve)), []int{0, 1}}, {example(dips(ten, far, twelve, far)), []int{0, 1, 3}}, {example(dips(far, far, far, far)), []int{0, 1, 2, 3}}, {example(dips(ten, dip(0, 11, 0), twelve, dip(0, 13, 0))), []int{0, 1, 2}},
		{example(dips(dip(0, 16, 0), dip(1, 9, 0), dip(1, 10, 0))), []int{1}}, {example(dips(dip(2, 7, 0), dip(0, 16, 0), dip(1, 10, 0))), nil}, {example(dips(dip(2, 7, 0), dip(0, 16, 0), dip(1, 11, 0))), []int{2}}, {example(dips(far, dip(1, 99, 0), dip(2, 0, 0))), []int{0, 1}},
		{with(plain(just(9), 4, 4, 4), dips(dip(0, 5, 0), dip(1, 2, 1), dip(2, 0, 2))), []int{2}}, {with(plain(just(9), 4, 4, 4), dips(dip(0, 5, 0), dip(1, 2, 1), dip(2, 0, 3))), nil}, {great(dips(dip(5, 3, 0), dip(5, 4, 0), dip(5, 9, 0))), []int{0, 2}},
	} {
		if l, e := coal.Wrong(x.b); !slices.Equal(l, x.want) || e != api.OK {
			t.Errorf("Wrong %d: %v, %d", i, l, e)
		}
		if is, e := coal.Right(x.b); is != (len(x.want) == 0) || e != api.OK {
			t.Errorf("Right %d: %v, %d", i, is, e)
		}
	}
}
