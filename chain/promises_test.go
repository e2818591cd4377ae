package chain_test

import (
	"math"
	"reflect"
	"slices"
	"testing"

	"prow/api"
	"prow/chain"
)

// answer is all that a function returns.
type answer struct {
	value any
	e     api.Errno
}

func be(value any, e api.Errno) answer { return answer{value, e} }

// list makes no difference between a nil list and an empty one.
func list(l []int, e api.Errno) answer { return be(append([]int{}, l...), e) }

func day(n int, e api.Errno) answer { return be(n, e) }

// answers returns what all functions return, of all sections and days.
func answers(b api.ChainBook) []answer {
	l := []answer{be(nil, chain.Check(b)), list(chain.Wrong(b)), day(chain.Turn(b))}
	right, e := chain.Right(b)
	l = append(l, be(right, e))
	for at := range b.Sections {
		wear, e := chain.Wear(b, at)
		l = append(l, be(wear, e), day(chain.Thin(b, at)), day(chain.Gone(b, at)))
		for on := range b.Days + 1 {
			thick, e := chain.Thick(b, at, on)
			fits, f := chain.Fits(b, survey(at, on, 40, 2))
			l = append(l, be(thick, e), be(fits, f))
		}
	}
	for on := range b.Days + 1 {
		l = append(l, list(chain.Cut(b, on)))
	}
	return l
}

// P1: no argument makes a function panic, or never end.
func TestAnyArgument(t *testing.T) {
	odd := []int{math.MinInt, math.MinInt32, -1, 0, 1, 2, 30, 31, 200, math.MaxInt32, math.MaxInt}
	var books []api.ChainBook
	for _, n := range odd {
		books = append(books,
			example(days(n)), example(rule(n)), example(turns(n)), example(turns(n, n)), example(turns(1, n)),
			example(surveys(survey(n, 0, 40, 1))), example(surveys(survey(0, n, 40, 1))), example(surveys(survey(0, 0, n, 1))), example(surveys(survey(0, 0, 40, n))), example(surveys(survey(n, n, n, n))))
		for _, m := range odd {
			books = append(books, example(sections(section(to(n, m), just(1)))), example(sections(section(just(40), to(n, m)))), api.ChainBook{Sections: []api.ChainSection{section(to(n, m), to(m, n))}, Turns: []int{n, m}, Rule: m, Days: n})
		}
	}
	for _, b := range books {
		valid := chain.Check(b) == api.OK
		for _, n := range odd {
			for name, e := range asks(b, n, n, survey(n, n, n, n)) {
				if !valid && e != api.ErrChain || valid && n < 0 && e != api.ErrChainAsk || e == notZero {
					t.Errorf("%s of %v, %d: %d", name, b, n, e)
				}
			}
		}
		chain.Right(b)
		chain.Turn(b)
		chain.Wrong(b)
	}
}

// P2: what was called before does not matter.
func TestSameAgain(t *testing.T) {
	r := rolls(2)
	var books []api.ChainBook
	var first [][]answer
	for range 30 {
		b := wildBook(r)
		books, first = append(books, b), append(first, answers(b))
	}
	for i := range books {
		i = len(books) - 1 - i
		if !reflect.DeepEqual(answers(books[i]), first[i]) {
			t.Errorf("another answer of the book %d", i)
		}
	}
}

// R3
func TestNilAndEmpty(t *testing.T) {
	nothing := example(turns(), surveys())
	nothing.Turns, nothing.Surveys = nil, nil
	empty := example()
	empty.Turns, empty.Surveys = []int{}, []api.ChainSurvey{}
	if !reflect.DeepEqual(answers(nothing), answers(empty)) {
		t.Error("nil and empty lists differ")
	}
	if chain.Check(example(sections())) != chain.Check(api.ChainBook{Sections: []api.ChainSection{}, Rule: 30, Days: 12}) {
		t.Error("nil and empty sections differ")
	}
}

// P1.8 and R4: what lies behind an argument's end stays, too.
func TestArgumentsStay(t *testing.T) {
	spare := func(b api.ChainBook) api.ChainBook {
		b.Sections = append(b.Sections, section(just(77), just(7)))[:len(b.Sections)]
		b.Turns = append(b.Turns, 777, 777)[:len(b.Turns)]
		b.Surveys = append(b.Surveys, survey(7, 7, 7, 7))[:len(b.Surveys)]
		return b
	}
	whole := func(b api.ChainBook) api.ChainBook {
		b.Sections, b.Turns, b.Surveys = b.Sections[:cap(b.Sections)], b.Turns[:cap(b.Turns)], b.Surveys[:cap(b.Surveys)]
		return b
	}
	r := rolls(3)
	books := []api.ChainBook{example(), example(surveyed()), example(torn()), example(straight())}
	for range 30 {
		books = append(books, wildBook(r))
	}
	for i, b := range books {
		b = spare(clone(b))
		before := clone(whole(b))
		answers(b)
		if !reflect.DeepEqual(whole(b), before) {
			t.Errorf("the book %d was changed: %v, %v", i, before, whole(b))
		}
	}
}

// P1.8 and R4
func TestResultsAreNew(t *testing.T) {
	b := example(torn())
	for name, ask := range map[string]func() ([]int, api.Errno){
		"Wrong": func() ([]int, api.Errno) { return chain.Wrong(b) },
		"Cut":   func() ([]int, api.Errno) { return chain.Cut(example(), 12) },
	} {
		one, _ := ask()
		want := slices.Clone(one)
		for i := range one {
			one[i] = 99
		}
		one = append(one, 99)
		if two, _ := ask(); !slices.Equal(two, want) {
			t.Errorf("%s keeps its result: %v", name, two)
		}
	}
	if thick, e := chain.Thick(example(surveyed()), 0, 6); thick != to(34, 35) || e != api.OK {
		t.Errorf("Thick afterwards: %v, %d", thick, e)
	}
}

// P1.8: nothing of an argument is kept, though it is changed afterwards.
func TestArgumentsAreNotKept(t *testing.T) {
	b := example(surveyed())
	want := answers(b)
	b.Surveys[0].Read, b.Sections[0].Thick, b.Turns[0] = 29, to(50, 50), 1
	if reflect.DeepEqual(answers(b), want) {
		t.Error("the answers are those of the book as it was")
	}
	if !reflect.DeepEqual(answers(example(surveyed())), want) {
		t.Error("the answers are not those of the book as it was")
	}
}

// P1.9: whatever is truly so, and rightly surveyed.
func TestWhatIsTrulySo(t *testing.T) {
	r := rolls(9)
	for range 300 {
		b, w := anyBook(r)
		if is, e := chain.Right(b); !is || e != api.OK {
			t.Fatalf("Right of %v: %v, %d", b, is, e)
		}
		if l, e := chain.Wrong(b); len(l) > 0 || e != api.OK {
			t.Fatalf("Wrong of %v: %v, %d", b, l, e)
		}
		for at := range b.Sections {
			if s, e := chain.Wear(b, at); w.wear[at] < s.Low || w.wear[at] > s.High || e != api.OK {
				t.Fatalf("Wear of %v: %v, %d", b, s, e)
			}
			thin, e := chain.Thin(b, at)
			if e == api.ErrNone {
				thin = b.Days + 1
			}
			gone, f := chain.Gone(b, at)
			for on, n := range w.thick[at] {
				if s, e := chain.Thick(b, at, on); n < s.Low || n > s.High || e != api.OK {
					t.Fatalf("Thick of %v, %d, %d: %v, %d", b, at, on, s, e)
				}
				if n < b.Rule && on < thin || f == api.OK && on >= gone && n >= b.Rule {
					t.Fatalf("%v: %d is %d thick on %d, thin on %d, gone on %d", b, at, n, on, thin, gone)
				}
			}
		}
	}
}

// P1.10: both ends of what is known, and nothing beyond.
func TestBothEnds(t *testing.T) {
	r := rolls(10)
	for range 150 {
		b, _ := anyBook(r)
		for at := range b.Sections {
			for on := range b.Days + 1 {
				s, _ := chain.Thick(b, at, on)
				for n := max(0, s.Low-7); n <= min(api.ChainThick, s.High+7); n++ {
					is, e := chain.Fits(b, survey(at, on, n, 0))
					if end := n == s.Low || n == s.High; e != api.OK || end && !is || is && (n < s.Low || n > s.High) {
						t.Fatalf("%v: %d on %d is %v thick; Fits of %d: %v, %d", b, at, on, s, n, is, e)
					}
					is, _ = chain.Fits(b, survey(at, on, n, 5))
					if (n+5 < s.Low || n-5 > s.High) && is || (n+5 == s.Low || n-5 == s.High) && !is {
						t.Fatalf("%v: %d on %d is %v thick; Fits of %d, wrong by 5: %v", b, at, on, s, n, is)
					}
				}
			}
		}
	}
}

func inside(a, b api.Span) bool { return b.Low <= a.Low && a.High <= b.High }

// none puts a day that there is not behind all others.
func none(n int, e api.Errno) int {
	if e == api.ErrNone {
		return math.MaxInt
	}
	return n
}

// P1.11: with one survey more nothing is known less well.
func TestOneSurveyMore(t *testing.T) {
	r := rolls(11)
	for range 150 {
		b, w := anyBook(r)
		more := with(clone(b), func(m *api.ChainBook) { m.Surveys = append(m.Surveys, rightly(r, b, w)) })
		for at := range b.Sections {
			before, _ := chain.Wear(b, at)
			if after, e := chain.Wear(more, at); !inside(after, before) || e != api.OK {
				t.Fatalf("Wear of %v: %v, then %v", more, before, after)
			}
			if none(chain.Thin(more, at)) < none(chain.Thin(b, at)) || none(chain.Gone(more, at)) > none(chain.Gone(b, at)) {
				t.Fatalf("%v: %d is too thin sooner, or surely later", more, at)
			}
			for on := range b.Days + 1 {
				before, _ := chain.Thick(b, at, on)
				if after, e := chain.Thick(more, at, on); !inside(after, before) || e != api.OK {
					t.Fatalf("Thick of %v: %v, then %v", more, before, after)
				}
			}
		}
	}
}

// P1.12: from the other end the same is told.
func TestOtherEnd(t *testing.T) {
	r := rolls(12)
	for range 100 {
		b := wildBook(r)
		o := clone(b)
		slices.Reverse(o.Sections)
		last := len(b.Sections) - 1
		for i := range o.Surveys {
			o.Surveys[i].Section = last - o.Surveys[i].Section
		}
		for name, ask := range map[string]func(b api.ChainBook) answer{
			"Wrong": func(b api.ChainBook) answer { return list(chain.Wrong(b)) },
			"Turn":  func(b api.ChainBook) answer { return day(chain.Turn(b)) },
		} {
			if one, two := ask(b), ask(o); !reflect.DeepEqual(one, two) {
				t.Fatalf("%s of %v: %v; from the other end %v", name, b, one, two)
			}
		}
		for at := range b.Sections {
			for name, ask := range map[string]func(b api.ChainBook, at int) answer{
				"Wear": func(b api.ChainBook, at int) answer { s, e := chain.Wear(b, at); return be(s, e) },
				"Thin": func(b api.ChainBook, at int) answer { return day(chain.Thin(b, at)) },
				"Gone": func(b api.ChainBook, at int) answer { return day(chain.Gone(b, at)) },
			} {
				if one, two := ask(b, at), ask(o, last-at); one != two {
					t.Fatalf("%s of %v, %d: %v; from the other end %v", name, b, at, one, two)
				}
			}
			for on := range b.Days + 1 {
				one, e := chain.Thick(b, at, on)
				two, f := chain.Thick(o, last-at, on)
				cut, _ := chain.Cut(b, on)
				other, _ := chain.Cut(o, on)
				if one != two || e != f || slices.Contains(cut, at) != slices.Contains(other, last-at) {
					t.Fatalf("%v, %d on %d: %v, %v; from the other end %v, %v", b, at, on, one, cut, two, other)
				}
			}
		}
	}
}

// P1.12: a section never grows thicker.
func TestNeverThicker(t *testing.T) {
	r := rolls(13)
	for range 100 {
		b, _ := anyBook(r)
		for at := range b.Sections {
			before, _ := chain.Thick(b, at, 0)
			for on := range b.Days + 1 {
				s, _ := chain.Thick(b, at, on)
				if s.Low > before.Low || s.High > before.High || s.Low > s.High {
					t.Fatalf("%v: %d is %v thick on %d, behind %v", b, at, s, on, before)
				}
				before = s
			}
		}
	}
}

// soonest returns the first day on which any section may be too thin; Days and 1, if there is none.
func soonest(b api.ChainBook) int {
	n := b.Days + 1
	for at := range b.Sections {
		n = min(n, none(chain.Thin(b, at)))
	}
	return n
}

func turnedOn(b api.ChainBook, day int) api.ChainBook {
	b = clone(b)
	b.Turns = append(b.Turns, day)
	slices.Sort(b.Turns)
	return b
}

// P1.13: the turn that is told helps, and no other one helps more.
func TestTheTurn(t *testing.T) {
	r := rolls(14)
	for found := 0; found < 100; {
		b, _ := anyBook(r)
		told, e := chain.Turn(b)
		if len(b.Turns) == api.ChainTurns || e == api.ErrNone && r.IntN(4) > 0 {
			continue
		}
		found++
		best, when := soonest(b), 0
		for on := 1; on <= b.Days; on++ {
			late := slices.ContainsFunc(b.Surveys, func(s api.ChainSurvey) bool { return on < s.Day })
			if late || slices.Contains(b.Turns, on) {
				continue
			}
			if n := soonest(turnedOn(b, on)); n > best {
				best, when = n, on
			}
		}
		if when == 0 && e != api.ErrNone || when != 0 && e != api.OK || told != when {
			t.Fatalf("Turn of %v: %d, %d; %d is best", b, told, e, when)
		}
	}
}

// P1.14: the book can be true without the surveys that are told, and not without fewer, nor as many that come before.
func TestTheSurveysThatMustBeWrong(t *testing.T) {
	r := rolls(15)
	for found := 0; found < 150; {
		b := wildBook(r)
		told, e := chain.Wrong(b)
		if len(told) == 0 && r.IntN(4) > 0 {
			continue
		}
		found++
		if e != api.OK {
			t.Fatalf("Wrong of %v: %d", b, e)
		}
		for set := range 1 << len(b.Surveys) {
			var l []int
			left := clone(b)
			left.Surveys = nil
			for i, s := range b.Surveys {
				if set>>i&1 == 1 {
					l = append(l, i)
				} else {
					left.Surveys = append(left.Surveys, s)
				}
			}
			better := len(l) < len(told) || len(l) == len(told) && slices.Compare(l, told) < 0
			if is, _ := chain.Right(left); is && better || !is && slices.Equal(l, told) {
				t.Fatalf("Wrong of %v: %v; without %v Right is %v", b, told, l, is)
			}
		}
	}
}
