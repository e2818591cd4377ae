package landing_test

import (
	"math"
	"reflect"
	"slices"
	"testing"

	"prow/api"
	"prow/landing"
)

// answers returns what all functions return, of all hours and shores, with some loads.
func answers(b api.LandingBook) []answer {
	right, e := landing.Right(b)
	l := []answer{be(nil, landing.Check(b)), be(right, e), list(landing.Wrong(b))}
	for hour := range b.Tides {
		l = append(l, span(landing.Height(b, hour)))
	}
	for shore := range b.Shores {
		l = append(l, span(landing.Floor(b, shore)))
	}
	return append(l, landings(b)...)
}

// landings returns what is told of the deck.
func landings(b api.LandingBook) []answer {
	var l []answer
	for shore := range b.Shores {
		for hour := range b.Tides {
			l = append(l, number(landing.Most(b, shore, hour)))
		}
		for _, load := range loadsOf(b) {
			l = append(l, number(landing.First(b, shore, load)))
			for hour := range b.Tides {
				l = append(l, number(landing.Lands(b, shore, hour, load)))
			}
		}
	}
	for _, load := range loadsOf(b) {
		l = append(l, list(landing.Both(b, load)))
	}
	return l
}

// loadsOf returns loads of which each sinks the deck deeper than the one before.
func loadsOf(b api.LandingBook) []int {
	l := []int{0, 1}
	for n := 1; n < 12 && n*b.Sink < api.LandingLoad; n++ {
		l = append(l, n*b.Sink+1)
	}
	return l
}

// P1: no argument makes a function panic, or never end.
func TestAnyArgument(t *testing.T) {
	odd := []int{math.MinInt, math.MinInt32, -41, -1, 0, 1, 2, 80, 200, math.MaxInt32, math.MaxInt}
	var books []api.LandingBook
	for _, n := range odd {
		books = append(books,
			example(sink(n)), example(under(n)), example(sounds(sound(n, 0, 10))), example(sounds(sound(0, n, 10))), example(sounds(sound(0, 0, n))), example(sounds(sound(n, n, n))))
		for _, m := range odd {
			books = append(books, example(tides(to(n, m))), example(floor(0, to(n, m))), example(floor(1, to(n, m))), example(reach(0, n, m)), example(reach(1, n, m)), example(empty(to(n, m))),
				api.LandingBook{Tides: []api.Span{to(n, m)}, Empty: to(m, n), Sink: n, Under: m})
		}
	}
	for _, b := range books {
		valid := landing.Check(b) == api.OK
		for _, n := range odd {
			for name, e := range asks(b, n, n, n) {
				if !valid && e != api.ErrLanding || valid && n < 0 && e != api.ErrLandingAsk || e == notZero {
					t.Errorf("%s of %v, %d: %d", name, b, n, e)
				}
			}
		}
		landing.Right(b)
		landing.Wrong(b)
	}
}

// P2: what was called before does not matter.
func TestSameAgain(t *testing.T) {
	r := rolls(2)
	var books []api.LandingBook
	var first [][]answer
	for range 30 {
		b := wildBook(r)
		books, first = append(books, b), append(first, answers(b))
	}
	for i := range books {
		i = len(books) - 1 - i
		if !reflect.DeepEqual(answers(books[i]), first[i]) {
			t.Errorf("another answer of the book %d", i)
		}
	}
}

// R3
func TestNilAndEmpty(t *testing.T) {
	nothing, none := example(), example()
	nothing.Sounds, none.Sounds = nil, []api.LandingSound{}
	if !reflect.DeepEqual(answers(nothing), answers(none)) {
		t.Error("nil and empty soundings differ")
	}
	nothing.Tides, none.Tides = nil, []api.Span{}
	if !reflect.DeepEqual(answers(nothing), answers(none)) {
		t.Error("nil and empty tides differ")
	}
}

// P2.8 and R4: what lies behind an argument's end stays, too.
func TestArgumentsStay(t *testing.T) {
	spare := func(b api.LandingBook) api.LandingBook {
		b.Tides = append(b.Tides, just(777), just(777))[:len(b.Tides)]
		b.Sounds = append(b.Sounds, sound(7, 7, 7), sound(7, 7, 7))[:len(b.Sounds)]
		return b
	}
	all := func(b api.LandingBook) api.LandingBook {
		b.Tides, b.Sounds = b.Tides[:cap(b.Tides)], b.Sounds[:cap(b.Sounds)]
		return b
	}
	r := rolls(3)
	books := []api.LandingBook{example(), example(sounded()), example(torn())}
	for range 30 {
		books = append(books, wildBook(r))
	}
	for i, b := range books {
		b = spare(clone(b))
		before := clone(all(b))
		answers(b)
		if !reflect.DeepEqual(all(b), before) {
			t.Errorf("the book %d was changed: %v, %v", i, before, all(b))
		}
	}
}

// P2.8 and R4
func TestResultsAreNew(t *testing.T) {
	b := example(torn())
	for name, ask := range map[string]func() ([]int, api.Errno){
		"Wrong": func() ([]int, api.Errno) { return landing.Wrong(b) },
		"Both":  func() ([]int, api.Errno) { return landing.Both(example(), 20) },
	} {
		one, _ := ask()
		want := slices.Clone(one)
		for i := range one {
			one[i] = 99
		}
		one = append(one, 99)
		if two, _ := ask(); !slices.Equal(two, want) || len(want) == 0 {
			t.Errorf("%s keeps its result: %v", name, two)
		}
	}
}

// P2.8: nothing of an argument is kept, though it is changed afterwards.
func TestArgumentsAreNotKept(t *testing.T) {
	b := example(sounded())
	want := answers(b)
	b.Sounds[0].Deep, b.Tides[1] = 7, just(20)
	if reflect.DeepEqual(answers(b), want) {
		t.Error("the answers are those of the book as it was")
	}
	if !reflect.DeepEqual(answers(example(sounded())), want) {
		t.Error("the answers are not those of the book as it was")
	}
}

func has(s api.Span, n int) bool { return s.Low <= n && n <= s.High }

func inside(a, b api.Span) bool { return b.Low <= a.Low && a.High <= b.High }

func heightOf(t *testing.T, b api.LandingBook, hour int) api.Span {
	t.Helper()
	s, e := landing.Height(b, hour)
	if e != api.OK {
		t.Fatalf("Height of %v, %d: %d", b, hour, e)
	}
	return s
}

func floorOf(t *testing.T, b api.LandingBook, shore int) api.Span {
	t.Helper()
	s, e := landing.Floor(b, shore)
	if e != api.OK {
		t.Fatalf("Floor of %v, %d: %d", b, shore, e)
	}
	return s
}

func verdict(t *testing.T, b api.LandingBook, shore, hour, load int) int {
	t.Helper()
	n, e := landing.Lands(b, shore, hour, load)
	if e != api.OK {
		t.Fatalf("Lands of %v, %d, %d, %d: %d", b, shore, hour, load, e)
	}
	return n
}

// P2.9: whatever is truly so, and rightly sounded.
func TestWhatIsTrulySo(t *testing.T) {
	r := rolls(9)
	for i := range 400 {
		b, w := anyBook(r)
		if i%2 == 0 {
			b, w = longBook(r)
		}
		if is, e := landing.Right(b); !is || e != api.OK {
			t.Fatalf("Right of %v: %v, %d", b, is, e)
		}
		if l, e := landing.Wrong(b); len(l) > 0 || e != api.OK {
			t.Fatalf("Wrong of %v: %v, %d", b, l, e)
		}
		for shore := range b.Shores {
			if s := floorOf(t, b, shore); !has(s, w.floors[shore]) {
				t.Fatalf("Floor of %v, %d: %v, but it is %d", b, shore, s, w.floors[shore])
			}
		}
		load := anyLoad(r, b)
		both, _ := landing.Both(b, load)
		for hour := range b.Tides {
			if s := heightOf(t, b, hour); !has(s, w.heights[hour]) {
				t.Fatalf("Height of %v, %d: %v, but it is %d", b, hour, s, w.heights[hour])
			}
			trulyBoth := true
			for shore := range b.Shores {
				n, truly := verdict(t, b, shore, hour, load), lands(b, w, shore, hour, load)
				if n == 2 && !truly || n == 0 && truly {
					t.Fatalf("Lands of %v, %d, %d, %d: %d, but it is %v", b, shore, hour, load, n, truly)
				}
				trulyBoth = trulyBoth && truly
			}
			if slices.Contains(both, hour) && !trulyBoth {
				t.Fatalf("Both of %v, %d: %v, but not in %d", b, load, both, hour)
			}
		}
	}
}

// P2.10: both ends of a height can be so, and nothing beyond them.
func TestBothEnds(t *testing.T) {
	r := rolls(10)
	for range 200 {
		b, _ := anyBook(r)
		for hour, tide := range b.Tides {
			s := heightOf(t, b, hour)
			for n := tide.Low; n <= tide.High; n++ {
				is, _ := landing.Right(with(clone(b), func(b *api.LandingBook) { b.Tides[hour] = just(n) }))
				if end := n == s.Low || n == s.High; end && !is || is && !has(s, n) {
					t.Fatalf("Height of %v, %d: %v; that it is %d can be: %v", b, hour, s, n, is)
				}
			}
			if !inside(s, tide) {
				t.Fatalf("Height of %v, %d: %v", b, hour, s)
			}
		}
		for shore, x := range b.Shores {
			s := floorOf(t, b, shore)
			for n := x.Floor.Low; n <= x.Floor.High; n++ {
				is, _ := landing.Right(with(clone(b), floor(shore, just(n))))
				if end := n == s.Low || n == s.High; end && !is || is && !has(s, n) {
					t.Fatalf("Floor of %v, %d: %v; that it is %d can be: %v", b, shore, s, n, is)
				}
			}
			if !inside(s, x.Floor) {
				t.Fatalf("Floor of %v, %d: %v", b, shore, s)
			}
		}
	}
}

// P2.11: with one sounding more nothing is known less well.
func TestOneSoundingMore(t *testing.T) {
	r := rolls(11)
	for found := 0; found < 200; {
		b := anyTides(r)
		w := anyTruth(r, b)
		b = soundRightly(r, b, w, api.LandingSounds-1)
		more := clone(b)
		more.Sounds = append(more.Sounds, rightly(r, b, w)...)
		if len(more.Sounds) == len(b.Sounds) {
			continue
		}
		found++
		for hour := range b.Tides {
			if before, after := heightOf(t, b, hour), heightOf(t, more, hour); !inside(after, before) {
				t.Fatalf("Height of %v, %d: %v, then %v", more, hour, before, after)
			}
			for shore := range b.Shores {
				if before, after := floorOf(t, b, shore), floorOf(t, more, shore); !inside(after, before) {
					t.Fatalf("Floor of %v, %d: %v, then %v", more, shore, before, after)
				}
				for _, load := range loadsOf(b) {
					if before, after := verdict(t, b, shore, hour, load), verdict(t, more, shore, hour, load); before != 1 && after != before {
						t.Fatalf("Lands of %v, %d, %d, %d: %d, then %d", more, shore, hour, load, before, after)
					}
				}
			}
		}
	}
}

// P2.12: with the greatest load, and with any lesser one, the deck surely lands; with one hundredweight more it does not.
func TestTheGreatestLoad(t *testing.T) {
	r := rolls(12)
	for i := range 60 {
		b, _ := anyBook(r)
		if i%4 == 0 {
			b, _ = longBook(r)
		}
		shore, hour := r.IntN(2), r.IntN(len(b.Tides))
		most, e := landing.Most(b, shore, hour)
		if e == api.ErrNone {
			most = -1
		}
		for load := range api.LandingLoad + 1 {
			if n := verdict(t, b, shore, hour, load); (n == 2) != (load <= most) {
				t.Fatalf("Most of %v, %d, %d: %d, %d; with %d it lands: %d", b, shore, hour, most, e, load, n)
			}
		}
	}
}

func moved(s api.Span, up int) api.Span { return to(s.Low+up, s.High+up) }

// higher returns the book of water, bottom and slips that are all so much higher.
func higher(b api.LandingBook, up int) api.LandingBook {
	b = clone(b)
	for hour := range b.Tides {
		b.Tides[hour] = moved(b.Tides[hour], up)
	}
	for shore := range b.Shores {
		s := &b.Shores[shore]
		s.Floor, s.Low, s.High = moved(s.Floor, up), s.Low+up, s.High+up
	}
	return b
}

// P2.13: of all that is so much higher the same is told.
func TestAllHigher(t *testing.T) {
	r := rolls(13)
	for found := 0; found < 100; {
		b := wildBook(r)
		up := r.IntN(41) - 20
		h := higher(b, up)
		if landing.Check(h) != api.OK {
			continue
		}
		found++
		if one, two := landings(b), landings(h); !reflect.DeepEqual(one, two) {
			t.Fatalf("of the deck of %v, and %d higher: %v, %v", b, up, one, two)
		}
		if one, two := list(landing.Wrong(b)), list(landing.Wrong(h)); !reflect.DeepEqual(one, two) {
			t.Fatalf("Wrong of %v, and %d higher: %v, %v", b, up, one, two)
		}
		is, _ := landing.Right(b)
		if too, _ := landing.Right(h); too != is {
			t.Fatalf("Right of %v, and %d higher: %v, %v", b, up, is, too)
		}
		if !is {
			continue
		}
		for hour := range b.Tides {
			if one, two := heightOf(t, b, hour), heightOf(t, h, hour); moved(one, up) != two {
				t.Fatalf("Height of %v, %d, and %d higher: %v, %v", b, hour, up, one, two)
			}
		}
		for shore := range b.Shores {
			if one, two := floorOf(t, b, shore), floorOf(t, h, shore); moved(one, up) != two {
				t.Fatalf("Floor of %v, %d, and %d higher: %v, %v", b, shore, up, one, two)
			}
		}
	}
}

// P2.14: the book can be true without the soundings that are told, and not without fewer, nor as many that come before.
func TestTheSoundingsThatMustBeWrong(t *testing.T) {
	r := rolls(14)
	for found := 0; found < 200; {
		b := wildBook(r)
		told, e := landing.Wrong(b)
		if len(told) == 0 && r.IntN(4) > 0 {
			continue
		}
		found++
		if e != api.OK {
			t.Fatalf("Wrong of %v: %d", b, e)
		}
		for set := range 1 << len(b.Sounds) {
			var l []int
			left := clone(b)
			left.Sounds = nil
			for i, s := range b.Sounds {
				if set>>i&1 == 1 {
					l = append(l, i)
				} else {
					left.Sounds = append(left.Sounds, s)
				}
			}
			better := len(l) < len(told) || len(l) == len(told) && slices.Compare(l, told) < 0
			if is, _ := landing.Right(left); is && better || !is && slices.Equal(l, told) {
				t.Fatalf("Wrong of %v: %v; without %v Right is %v", b, told, l, is)
			}
		}
	}
}
