package coal_test

import (
	"math"
	"math/rand/v2"
	"reflect"
	"slices"
	"testing"

	"prow/api"
	"prow/coal"
)

// answers returns what all functions return, of all days and both engines.
func answers(b api.CoalBook) []answer {
	l := []answer{number(0, coal.Check(b)), is(coal.Right(b)), number(coal.Day(b)), number(coal.Order(b)), number(coal.Late(b)), list(coal.Wrong(b)), span(coal.Eats(b, 0)), span(coal.Eats(b, 1))}
	for day := range api.CoalDays {
		l = append(l, span(coal.Heap(b, day)), number(coal.Wind(b, day)), number(coal.Lasts(b, day)))
	}
	return l
}

// P1: no argument makes a function panic, or never end.
func TestAnyArgument(t *testing.T) {
	odd := []int{math.MinInt, math.MinInt32, -1, 0, 1, 2, 3, 7, 400, math.MaxInt32, math.MaxInt}
	books := []api.CoalBook{great(), example(), example(torn()), example(days(slices.Repeat([]api.CoalDay{on(1, 1, 1)}, 1<<16)...)), example(dips(make([]api.CoalDip, 1<<16)...))}
	for _, n := range odd {
		books = append(books, example(brings(n)), example(crosses(1, n)), example(engines(1, n)), example(winds(1, n)), example(extra(0, n), extra(1, n), extra(2, n)))
		for _, m := range odd {
			books = append(books, example(heap(to(n, m))), example(eats(0, to(n, m))), example(eats(1, to(n, m))), example(comes(n, m)), example(more(dip(n, m, 0))), example(more(dip(0, n, m))), example(days(on(n, m, n)), comes(0, 1)), api.CoalBook{Heap: to(n, m), Eats: [2]api.Span{to(m, n), to(n, m)}, Days: []api.CoalDay{on(m, n, m)}, Collier: to(m, n), Brings: n, Dips: []api.CoalDip{dip(m, n, m)}})
		}
	}
	for i, b := range books {
		valid := coal.Check(b) == api.OK
		for _, day := range odd {
			for _, engine := range odd {
				for name, e := range asks(b, day, engine) {
					if e == notZero || valid == (e == api.ErrCoal) {
						t.Errorf("%s of the book %d, %d, %d: %d", name, i, day, engine, e)
					}
				}
			}
		}
		for name, e := range tells(b) {
			if e == notZero || valid == (e == api.ErrCoal) {
				t.Errorf("%s of the book %d: %d", name, i, e)
			}
		}
	}
}

// P2: what was called before does not matter.
func TestSameAgain(t *testing.T) {
	r := rolls(4)
	var books []api.CoalBook
	var first [][]answer
	for range 100 {
		b := small().wildBook(r)
		books, first = append(books, b), append(first, answers(b))
	}
	for i := range books {
		i = len(books) - 1 - i
		if !reflect.DeepEqual(answers(books[i]), first[i]) {
			t.Errorf("another answer of the book %d", i)
		}
	}
}

// R3
func TestNilAndEmpty(t *testing.T) {
	for i, b := range []api.CoalBook{example(), great(), plain(just(5), 3), example(days()), {}} {
		nothing, none := clone(b), clone(b)
		nothing.Dips, none.Dips = nil, []api.CoalDip{}
		if len(b.Days) == 0 {
			nothing.Days, none.Days = nil, []api.CoalDay{}
		}
		if !reflect.DeepEqual(answers(nothing), answers(none)) {
			t.Errorf("nil and empty lists of the book %d differ", i)
		}
	}
}

// P6.8 and R4: what lies behind an argument's end stays, too.
func TestArgumentsStay(t *testing.T) {
	spare := func(b api.CoalBook) api.CoalBook {
		b.Days = append(b.Days, on(7, 77, 777))[:len(b.Days)]
		b.Dips = append(b.Dips, dip(7, 77, 777), dip(7, 77, 777))[:len(b.Dips)]
		return b
	}
	all := func(b api.CoalBook) api.CoalBook {
		b.Days, b.Dips = b.Days[:cap(b.Days)], b.Dips[:cap(b.Dips)]
		return b
	}
	r := rolls(5)
	books := []api.CoalBook{example(), example(dipped()), example(torn()), great()}
	for range 60 {
		books = append(books, small().wildBook(r))
	}
	for i, b := range books {
		b = spare(clone(b))
		before := clone(all(b))
		answers(b)
		if !reflect.DeepEqual(all(b), before) {
			t.Errorf("the book %d was changed: %v, %v", i, before, all(b))
		}
	}
}

// P6.8 and R4
func TestResultsAreNew(t *testing.T) {
	b := example(dips(dip(0, 99, 0), dip(0, 12, 0), dip(1, 99, 0)))
	first, _ := coal.Wrong(b)
	want := slices.Clone(first)
	for i := range first {
		first[i] = 99
	}
	first = append(first, 99)
	if again, e := coal.Wrong(b); !slices.Equal(again, want) || len(want) != 2 || e != api.OK {
		t.Errorf("Wrong keeps its result: %v, %d", again, e)
	}
}

// P6.8: nothing of an argument is kept, though it is changed afterwards.
func TestArgumentsAreNotKept(t *testing.T) {
	b := example(dipped())
	want := answers(b)
	b.Dips[0].Read, b.Days[1].Crosses = 12, 1
	if reflect.DeepEqual(answers(b), want) {
		t.Error("the answers are those of the book as it was")
	}
	if !reflect.DeepEqual(answers(example(dipped())), want) {
		t.Error("the answers are not those of the book as it was")
	}
}

func has(s api.Span, n int) bool { return s.Low <= n && n <= s.High }

func inside(a, b api.Span) bool { return b.Low <= a.Low && a.High <= b.High }

// ok returns the result of a call that must not fail.
func ok[T any](t *testing.T, what string, b api.CoalBook, result T, e api.Errno) T {
	t.Helper()
	if e != api.OK {
		t.Fatalf("%s of %v: %d", what, b, e)
	}
	return result
}

func heapOf(t *testing.T, b api.CoalBook, day int) api.Span {
	t.Helper()
	s, e := coal.Heap(b, day)
	return ok(t, "Heap", b, s, e)
}

func eatsOf(t *testing.T, b api.CoalBook, engine int) api.Span {
	t.Helper()
	s, e := coal.Eats(b, engine)
	return ok(t, "Eats", b, s, e)
}

func windOf(t *testing.T, b api.CoalBook, day int) int {
	t.Helper()
	n, e := coal.Wind(b, day)
	return ok(t, "Wind", b, n, e)
}

func lastsTo(t *testing.T, b api.CoalBook, day int) int {
	t.Helper()
	n, e := coal.Lasts(b, day)
	return ok(t, "Lasts", b, n, e)
}

// lastsAll is told of the last day.
func lastsAll(t *testing.T, b api.CoalBook) int {
	t.Helper()
	return lastsTo(t, b, len(b.Days)-1)
}

func order(t *testing.T, b api.CoalBook) int {
	t.Helper()
	n, e := coal.Order(b)
	return ok(t, "Order", b, n, e)
}

// short is the first day on which coal may lack; one behind all days, if there is none.
func short(t *testing.T, b api.CoalBook) int {
	t.Helper()
	n, e := coal.Day(b)
	if e == api.ErrNone {
		return len(b.Days)
	}
	return ok(t, "Day", b, n, e)
}

// late is the last day on which the collier can come; the one before Collier, if there is none.
func late(t *testing.T, b api.CoalBook) int {
	t.Helper()
	n, e := coal.Late(b)
	if e == api.ErrNone {
		return b.Collier.Low - 1
	}
	return ok(t, "Late", b, n, e)
}

func isTrue(b api.CoalBook) bool {
	right, _ := coal.Right(b)
	return right
}

// holds fails if what is told of a book is not so in a truth of it.
func holds(t *testing.T, b api.CoalBook, w whole) {
	t.Helper()
	last := len(b.Days) - 1
	for day, n := range w.coal {
		if s := heapOf(t, b, day); !has(s, n) {
			t.Fatalf("Heap of %v, %d: %v, not %d", b, day, s, n)
		}
		if set := windOf(t, b, day); set>>w.winds[day]&1 == 0 {
			t.Fatalf("Wind of %v, %d: %d, not %d", b, day, set, w.winds[day])
		}
		if lasts := lastsTo(t, b, day); lasts == 2 && !w.lasts(day) || lasts == 0 && w.lasts(day) {
			t.Fatalf("Lasts of %v, %d: %d, but %v", b, day, lasts, w.coal)
		}
		if n < 0 && day < short(t, b) {
			t.Fatalf("Day of %v: %d, but %v", b, short(t, b), w.coal)
		}
	}
	for engine, n := range w.eats {
		if s := eatsOf(t, b, engine); !has(s, n) {
			t.Fatalf("Eats of %v, %d: %v, not %d", b, engine, s, n)
		}
	}
	if n := order(t, b); w.least(last)+n < 0 {
		t.Fatalf("Order of %v: %d, but %v", b, n, w.coal)
	}
	if n := late(t, b); w.comes <= n && !w.lasts(last) {
		t.Fatalf("Late of %v: %d; the collier came on %d, but %v", b, n, w.comes, w.coal)
	}
}

// P6.9: whatever is truly so, and rightly measured.
func TestCoalLastsToTheCollier(t *testing.T) {
	r := rolls(9)
	for i := range 700 {
		s := small()
		if i%4 == 0 {
			s = full()
		}
		b, w := s.anyBook(r)
		same(t, b, "Right", is(coal.Right(b)), is(true, api.OK))
		same(t, b, "Wrong", list(coal.Wrong(b)), list(nil, api.OK))
		holds(t, b, w)
	}
}

// raised returns the book with so much more at first that a measure can tell how little coal there is; false, if there is no room.
func raised(b api.CoalBook, lack int) (api.CoalBook, bool) {
	lack = max(0, lack)
	b = with(b, raise(lack))
	return b, b.Heap.High <= api.CoalHeap
}

// P6.10: both ends can be measured, and nothing beyond can.
func TestBothEnds(t *testing.T) {
	r := rolls(10)
	for range 250 {
		b, _ := small().anyBook(r)
		b.Dips = b.Dips[:min(len(b.Dips), api.CoalDips-1)]
		for day := range b.Days {
			b, fits := raised(b, 7-heapOf(t, b, day).Low)
			if !fits {
				continue
			}
			s := heapOf(t, b, day)
			for n := max(0, s.Low-6); n <= min(2*api.CoalHeap, s.High+6); n++ {
				end := n == s.Low || n == s.High
				if can := isTrue(with(b, more(dip(day, n, 0)))); end && !can || !has(s, n) && can {
					t.Fatalf("a measure of %d on %d of %v: %v, but Heap is %v", n, day, b, can, s)
				}
				near := n+5 >= s.Low && n-5 <= s.High
				if can := isTrue(with(b, more(dip(day, n, 5)))); !near && can || (n+5 == s.Low || n-5 == s.High) && !can {
					t.Fatalf("a measure of %d, wrong by 5, on %d of %v: %v, but Heap is %v", n, day, b, can, s)
				}
			}
		}
	}
}

// P6.11: with one measure more nothing is known less well.
func TestOneMeasureMore(t *testing.T) {
	r := rolls(11)
	for found := 0; found < 400; {
		b, w := small().anyBook(r)
		b.Dips = b.Dips[:min(len(b.Dips), api.CoalDips-1)]
		l := rightly(r, w, 1)
		if len(l) == 0 {
			continue
		}
		found++
		then := with(b, more(l...))
		for day := range b.Days {
			if before, after := heapOf(t, b, day), heapOf(t, then, day); !inside(after, before) {
				t.Fatalf("Heap of %v, %d: %v; before %v", then, day, after, before)
			}
			if before, after := windOf(t, b, day), windOf(t, then, day); after&^before != 0 {
				t.Fatalf("Wind of %v, %d: %d; before %d", then, day, after, before)
			}
			if before, after := lastsTo(t, b, day), lastsTo(t, then, day); before != 1 && after != before {
				t.Fatalf("Lasts of %v, %d: %d; before %d", then, day, after, before)
			}
		}
		for engine := range b.Eats {
			if before, after := eatsOf(t, b, engine), eatsOf(t, then, engine); !inside(after, before) {
				t.Fatalf("Eats of %v, %d: %v; before %v", then, engine, after, before)
			}
		}
		sameOrLonger(t, b, then)
	}
}

// sameOrLonger holds two books against each other, of which the second one has no truth in which coal lasts shorter.
func sameOrLonger(t *testing.T, b, then api.CoalBook) {
	t.Helper()
	if before, after := short(t, b), short(t, then); after < before {
		t.Fatalf("Day of %v: %d; before %d", then, after, before)
	}
	if before, after := order(t, b), order(t, then); after > before {
		t.Fatalf("Order of %v: %d; before %d", then, after, before)
	}
	if before, after := late(t, b), late(t, then); after < before {
		t.Fatalf("Late of %v: %d; before %d", then, after, before)
	}
}

// P6.11: what cannot be true as it is cannot with one measure more, either.
func TestStillFalse(t *testing.T) {
	r := rolls(12)
	for range 400 {
		b := small().wildBook(r)
		for n := range b.Dips {
			if less := with(b, dips(b.Dips[:n]...)); isTrue(b) && !isTrue(less) {
				t.Fatalf("Right of %v, but not of %v", b, less)
			}
		}
	}
}

// P6.12
func TestTheOrder(t *testing.T) {
	r := rolls(13)
	for found := 0; found < 400; {
		b, _ := small().anyBook(r)
		n := order(t, b)
		if b.Heap.High+n > api.CoalHeap || n == 0 && r.IntN(4) > 0 {
			continue
		}
		found++
		if then := with(b, raise(n)); lastsAll(t, then) != 2 || order(t, then) != 0 || short(t, then) < len(b.Days) {
			t.Fatalf("Lasts of %v: not 2, with %d more", b, n)
		}
		if less := with(b, raise(n-1)); n > 0 && (lastsAll(t, less) == 2 || order(t, less) != 1) {
			t.Fatalf("Lasts of %v: 2, with %d more", b, n-1)
		}
	}
}

// P6.13: a crossing less, or calm.
func TestLessIsBurnt(t *testing.T) {
	r := rolls(14)
	for range 400 {
		b := small().book(r)
		b.Extra[api.CoalCalm] = min(b.Extra[0], b.Extra[1], b.Extra[2])
		less := clone(b)
		if day := r.IntN(len(b.Days)); r.IntN(2) == 0 && b.Days[day].Crosses > 0 {
			less.Days[day].Crosses--
		} else {
			for day := range less.Days {
				less.Days[day].Winds = calm
			}
		}
		for day := range b.Days {
			if before, after := lastsTo(t, b, day), lastsTo(t, less, day); after < before {
				t.Fatalf("Lasts of %v, %d: %d; but %d of %v", b, day, before, after, less)
			}
		}
		sameOrLonger(t, b, less)
	}
}

// P6.13: the collier surely comes as late as is told, and not later. P6.6: nor does it matter that it comes sooner.
func TestAsLateAsIsTold(t *testing.T) {
	r := rolls(15)
	for range 500 {
		b := small().book(r)
		n := late(t, b)
		for day := b.Collier.Low; day <= b.Collier.High; day++ {
			if lasts := lastsAll(t, with(b, comes(day, day))); (lasts == 2) != (day <= n) && day <= n+1 {
				t.Fatalf("Late of %v: %d; but if the collier comes on %d Lasts is %d", b, n, day, lasts)
			}
		}
	}
}

// P6.14: the book can be true without the measures that are told, and not without fewer, nor as many that come before.
func TestTheMeasuresThatMustBeWrong(t *testing.T) {
	r := rolls(16)
	for found := 0; found < 300; {
		b := small().wildBook(r)
		wrong, e := coal.Wrong(b)
		if e != api.OK {
			t.Fatalf("Wrong of %v: %d", b, e)
		}
		if len(wrong) == 0 && r.IntN(8) > 0 {
			continue
		}
		found++
		for set := range 1 << len(b.Dips) {
			var l []int
			left := with(b, dips())
			for n, d := range b.Dips {
				if set>>n&1 == 1 {
					l = append(l, n)
				} else {
					left.Dips = append(left.Dips, d)
				}
			}
			better := len(l) < len(wrong) || len(l) == len(wrong) && slices.Compare(l, wrong) < 0
			if right := isTrue(left); right && better || !right && slices.Equal(l, wrong) {
				t.Fatalf("Wrong of %v: %v; without %v Right is %v", b, wrong, l, right)
			}
		}
	}
}

// exchanged tells of each engine what is told of the other one.
func exchanged(b api.CoalBook) api.CoalBook {
	b = clone(b)
	b.Eats[0], b.Eats[1] = b.Eats[1], b.Eats[0]
	for i := range b.Days {
		b.Days[i].Engines = b.Days[i].Engines>>1 | b.Days[i].Engines&1<<1
	}
	return b
}

// Neither engine is another one than the other.
func TestEnginesExchanged(t *testing.T) {
	r := rolls(17)
	for range 200 {
		b := small().wildBook(r)
		here, there := answers(b), answers(exchanged(b))
		here[6], here[7] = here[7], here[6] // what they eat
		if !reflect.DeepEqual(here, there) {
			t.Fatalf("%v: %v; with engines exchanged %v", b, here, there)
		}
	}
}

// shuffled tells the measures in another order.
func shuffled(r *rand.Rand, b api.CoalBook) api.CoalBook {
	b = clone(b)
	r.Shuffle(len(b.Dips), func(i, j int) { b.Dips[i], b.Dips[j] = b.Dips[j], b.Dips[i] })
	return b
}

// In which order measures are told matters to the list of Wrong alone.
func TestMeasuresInAnotherOrder(t *testing.T) {
	r := rolls(18)
	for range 200 {
		b := small().wildBook(r)
		here, there := answers(b), answers(shuffled(r, b))
		first, _ := here[5].value.([]int)
		second, _ := there[5].value.([]int)
		here[5], there[5] = number(len(first), here[5].e), number(len(second), there[5].e)
		if !reflect.DeepEqual(here, there) {
			t.Fatalf("%v: %v; in another order %v", b, here, there)
		}
	}
}
