package chain_test

import (
	"slices"
	"testing"

	"prow/api"
	"prow/chain"
)

// three is a chain of which the section in the middle stays in its place.
func three(changes ...change) api.ChainBook {
	return with(api.ChainBook{
		Sections: []api.ChainSection{section(just(30), just(3)), section(to(20, 21), just(1)), section(just(30), just(0))},
		Turns:    []int{2, 5},
		Rule:     20,
		Days:     6,
	}, changes...)
}

// four is as great as a book can be.
func four(changes ...change) api.ChainBook {
	s := section(to(197, 200), to(1, 3))
	return with(api.ChainBook{Sections: []api.ChainSection{s, s, s, s}, Turns: []int{1, 2, 29, 30}, Rule: 200, Days: 30}, changes...)
}

// P1.1: what is valid, up to each limit.
func TestValid(t *testing.T) {
	one := func(thick, wear api.Span) change { return sections(section(thick, wear)) }
	for i, b := range []api.ChainBook{
		example(), example(straight()), example(surveyed()), example(torn()), three(), four(),
		example(one(to(40, 42), to(0, 0))), four(surveys(slices.Repeat([]api.ChainSurvey{survey(3, 30, 200, 5)}, 8)...)),
		example(one(to(36, 39), to(1, 3))), example(one(to(0, 3), just(0))), example(one(to(0, 0), just(0))), example(one(just(200), just(3))),
		example(one(just(36), just(3))), example(one(just(24), to(0, 2))),
		example(sections(section(just(24), just(0)), section(just(24), just(2)))),
		example(days(1), turns(1)), example(days(30), sections(section(just(90), just(3)))), example(rule(0)), example(rule(200)),
		example(turns(1, 12)), example(turns(1, 2, 3, 4)), example(turns(9, 10, 11, 12)),
		example(surveys(survey(0, 0, 0, 0))), example(surveys(survey(1, 12, 200, 5))),
	} {
		if e := chain.Check(b); e != api.OK {
			t.Errorf("Check of the valid book %d: %d", i, e)
		}
	}
}

// wrongBooks has a book beyond each limit.
func wrongBooks() []api.ChainBook {
	one := func(thick, wear api.Span) change { return sections(section(thick, wear)) }
	second := func(thick, wear api.Span) change {
		return sections(section(to(40, 42), to(1, 2)), section(thick, wear))
	}
	return []api.ChainBook{
		{}, example(sections()), four(sections(slices.Repeat([]api.ChainSection{section(just(200), just(1))}, 5)...)),
		example(one(to(40, 44), just(1))), example(one(to(42, 40), just(1))), example(one(to(198, 201), just(1))), example(one(just(201), just(1))),
		example(one(to(-1, 2), just(0))), example(one(just(-1), just(0))), example(one(to(40, 39), just(0))),
		example(one(just(40), to(0, 3))), example(one(just(60), to(3, 4))), example(one(just(60), just(4))), example(one(just(40), to(-1, 0))), example(one(just(40), just(-1))), example(one(just(40), to(2, 1))),
		example(second(to(40, 44), just(1))), example(second(just(40), to(0, 3))), example(second(just(40), to(1, 0))),
		example(days(0)), example(days(-1)), four(days(31)), example(rule(-1)), example(rule(201)),
		example(one(just(35), just(3))), example(one(to(23, 26), to(0, 2))), example(one(to(35, 38), to(2, 3))),
		example(sections(section(just(23), just(0)), section(just(24), just(2)))), example(sections(section(just(24), just(2)), section(just(23), just(0)))),
		example(turns(0)), example(turns(-1)), example(turns(13)), example(turns(6, 6)), example(turns(7, 6)), example(turns(3, 9, 8)), example(turns(3, 13)), example(turns(1, 2, 3, 4, 5)),
		example(surveys(survey(2, 0, 0, 0))), example(surveys(survey(-1, 0, 0, 0))), example(surveys(survey(0, 13, 0, 0))), example(surveys(survey(0, -1, 0, 0))),
		example(surveys(survey(0, 0, 201, 0))), example(surveys(survey(0, 0, -1, 0))), example(surveys(survey(0, 0, 0, 6))), example(surveys(survey(0, 0, 0, -1))),
		example(surveys(survey(0, 6, 34, 1), survey(0, 0, 0, 6))), example(surveys(slices.Repeat([]api.ChainSurvey{survey(0, 6, 34, 1)}, 9)...)),
	}
}

// P1.1 and R1: of a wrong book all functions tell first, and return nothing else.
func TestWrongBook(t *testing.T) {
	for i, b := range wrongBooks() {
		if e := chain.Check(b); e != api.ErrChain {
			t.Errorf("Check of the wrong book %d: %d", i, e)
		}
		for name, e := range asks(b, -1, -1, survey(-1, -1, -1, -1)) {
			if e != api.ErrChain {
				t.Errorf("%s of the wrong book %d: %v", name, i, e)
			}
		}
		if is, e := chain.Right(b); is || e != api.ErrChain {
			t.Errorf("Right of the wrong book %d: %v, %d", i, is, e)
		}
		if l, e := chain.Wrong(b); len(l) > 0 || e != api.ErrChain {
			t.Errorf("Wrong of the wrong book %d: %v, %d", i, l, e)
		}
		if n, e := chain.Turn(b); n != 0 || e != api.ErrChain {
			t.Errorf("Turn of the wrong book %d: %v, %d", i, n, e)
		}
	}
}

// notZero is told in place of an error if an error came with another result.
const notZero api.Errno = -1

func told(zero bool, e api.Errno) api.Errno {
	if e != api.OK && !zero {
		return notZero
	}
	return e
}

// asks returns the errors of all functions that are asked for a section, a day or a survey.
func asks(b api.ChainBook, at, day int, s api.ChainSurvey) map[string]api.Errno {
	all := map[string]api.Errno{}
	thick, e := chain.Thick(b, at, day)
	all["Thick"] = told(thick == api.Span{}, e)
	wear, e := chain.Wear(b, at)
	all["Wear"] = told(wear == api.Span{}, e)
	thin, e := chain.Thin(b, at)
	all["Thin"] = told(thin == 0, e)
	gone, e := chain.Gone(b, at)
	all["Gone"] = told(gone == 0, e)
	cut, e := chain.Cut(b, day)
	all["Cut"] = told(len(cut) == 0, e)
	fits, e := chain.Fits(b, s)
	all["Fits"] = told(!fits, e)
	return all
}

// P1.2 to P1.5 and R1: a wrong question comes before surveys that cannot be right.
func TestWrongQuestion(t *testing.T) {
	for i, b := range []api.ChainBook{example(), example(surveyed()), example(torn())} {
		for _, x := range []struct{ section, day int }{{-1, -1}, {2, 13}} {
			for name, e := range asks(b, x.section, x.day, survey(x.section, 0, 0, 0)) {
				if e != api.ErrChainAsk {
					t.Errorf("%s of %v of the book %d: %d", name, x, i, e)
				}
			}
		}
		for _, x := range []struct{ section, day int }{{-1, 0}, {2, 12}, {0, -1}, {1, 13}} {
			if s, e := chain.Thick(b, x.section, x.day); s != just(0) || e != api.ErrChainAsk {
				t.Errorf("Thick of %v of the book %d: %v, %d", x, i, s, e)
			}
		}
		for _, s := range []api.ChainSurvey{survey(2, 0, 40, 0), survey(-1, 0, 40, 0), survey(0, 13, 40, 0), survey(0, -1, 40, 0), survey(0, 0, 201, 5), survey(0, 0, -1, 5), survey(0, 0, 40, 6), survey(0, 0, 40, -1)} {
			if is, e := chain.Fits(b, s); is || e != api.ErrChainAsk {
				t.Errorf("Fits of %v of the book %d: %v, %d", s, i, is, e)
			}
		}
	}
}

// P1.2 to P1.6: of a book that cannot be true.
func TestFalse(t *testing.T) {
	for i, b := range []api.ChainBook{example(torn()), example(torn(), rule(0)), example(surveys(survey(0, 0, 50, 5))), example(surveys(survey(1, 0, 38, 0), survey(1, 0, 39, 0))), three(surveys(survey(2, 5, 22, 0)))} {
		for name, e := range asks(b, 0, 0, survey(0, 0, 40, 5)) {
			if e != api.ErrChainFalse {
				t.Errorf("%s of the book %d: %d", name, i, e)
			}
		}
		if n, e := chain.Turn(b); n != 0 || e != api.ErrChainFalse {
			t.Errorf("Turn of the book %d: %d, %d", i, n, e)
		}
		if is, e := chain.Right(b); is || e != api.OK {
			t.Errorf("Right of the book %d: %v, %d", i, is, e)
		}
	}
}

// P1.2
func TestThickAndWear(t *testing.T) {
	for i, x := range []struct {
		b            api.ChainBook
		section, day int
		want         api.Span
	}{
		{example(), 0, 0, to(40, 42)}, {example(), 0, 6, to(28, 36)}, {example(), 0, 7, to(27, 36)}, {example(), 0, 12, to(22, 36)},
		{example(), 1, 0, to(38, 39)}, {example(), 1, 6, to(32, 39)}, {example(), 1, 7, to(30, 38)}, {example(), 1, 12, to(20, 33)},
		{example(surveyed()), 0, 6, to(34, 35)}, {example(surveyed()), 0, 12, to(28, 35)}, {example(surveyed()), 1, 12, to(26, 33)}, {example(surveyed()), 0, 0, to(40, 41)},
		{example(straight()), 0, 12, to(16, 30)}, {example(straight()), 1, 12, to(26, 39)},
		{example(turns(1)), 0, 1, to(38, 41)}, {example(turns(1)), 0, 2, to(37, 41)}, {example(turns(12)), 0, 12, to(16, 30)},
		{three(), 0, 2, just(24)}, {three(), 0, 5, just(24)}, {three(), 0, 6, just(21)}, {three(), 1, 6, to(14, 15)}, {three(), 2, 5, just(21)}, {three(), 2, 6, just(21)},
		{three(surveys(survey(1, 3, 18, 0))), 1, 6, just(15)}, {four(), 3, 30, to(107, 170)},
	} {
		if s, e := chain.Thick(x.b, x.section, x.day); s != x.want || e != api.OK {
			t.Errorf("Thick %d: %v, %d", i, s, e)
		}
	}
	for i, x := range []struct {
		b     api.ChainBook
		place int
		want  api.Span
	}{
		{example(), 0, to(1, 2)}, {example(), 1, to(0, 1)}, {example(surveyed()), 0, just(1)}, {example(surveyed()), 1, to(0, 1)},
		{example(surveys(survey(1, 12, 20, 0))), 0, just(2)}, {example(surveys(survey(1, 12, 20, 0))), 1, just(1)}, {example(surveys(survey(1, 5, 37, 3))), 0, to(1, 2)},
		{three(), 0, just(3)}, {three(), 2, just(0)}, {four(surveys(survey(0, 1, 199, 0))), 0, just(1)}, {four(surveys(survey(0, 1, 199, 0))), 3, to(1, 3)},
	} {
		if s, e := chain.Wear(x.b, x.place); s != x.want || e != api.OK {
			t.Errorf("Wear %d: %v, %d", i, s, e)
		}
	}
}

// P1.3
func TestThinAndGone(t *testing.T) {
	for i, x := range []struct {
		b          api.ChainBook
		section    int
		thin, gone int // -1: there is none
	}{
		{example(), 0, 6, -1}, {example(), 1, 8, -1}, {example(surveyed()), 0, 11, -1}, {example(surveyed()), 1, 9, -1},
		{example(rule(37)), 0, 2, 6}, {example(rule(37)), 1, 2, 9}, {example(rule(38)), 1, 1, 8}, {example(rule(39)), 1, 0, 7}, {example(rule(40)), 1, 0, 0}, {example(rule(41)), 0, 0, 2}, {example(rule(200)), 0, 0, 0},
		{example(rule(20)), 1, -1, -1}, {example(rule(21)), 1, 12, -1}, {example(rule(0)), 0, -1, -1}, {example(straight(), rule(31)), 0, 5, 12}, {example(straight(), rule(30)), 0, 6, -1},
		{three(), 0, -1, -1}, {three(), 1, 1, 2}, {three(rule(22)), 0, 6, 6}, {three(rule(22)), 2, 5, 5}, {three(rule(21)), 2, -1, -1},
	} {
		check := func(name string, n int, e api.Errno, want int) {
			if want < 0 && (n != 0 || e != api.ErrNone) || want >= 0 && (n != want || e != api.OK) {
				t.Errorf("%s %d: %d, %d", name, i, n, e)
			}
		}
		n, e := chain.Thin(x.b, x.section)
		check("Thin", n, e, x.thin)
		n, e = chain.Gone(x.b, x.section)
		check("Gone", n, e, x.gone)
	}
}

// P1.4
func TestCut(t *testing.T) {
	for i, x := range []struct {
		b    api.ChainBook
		day  int
		want []int
	}{
		{example(), 0, nil}, {example(), 5, nil}, {example(), 6, []int{0}}, {example(), 7, []int{0}}, {example(), 8, []int{0, 1}}, {example(), 12, []int{0, 1}}, {example(rule(39)), 0, []int{1}},
		{example(surveyed()), 9, []int{1}}, {example(surveyed()), 12, []int{0, 1}}, {three(), 0, nil}, {three(), 1, []int{1}}, {three(rule(22)), 5, []int{1, 2}}, {three(rule(22)), 6, []int{0, 1, 2}}, {four(), 0, []int{0, 1, 2, 3}},
	} {
		if l, e := chain.Cut(x.b, x.day); !slices.Equal(l, x.want) || e != api.OK {
			t.Errorf("Cut %d: %v, %d", i, l, e)
		}
	}
}

// P1.5
func TestFits(t *testing.T) {
	eight := example(surveys(slices.Repeat([]api.ChainSurvey{survey(0, 6, 34, 1)}, 8)...))
	for i, x := range []struct {
		b      api.ChainBook
		survey api.ChainSurvey
		want   bool
	}{
		{example(surveyed()), survey(1, 6, 39, 0), true}, {example(surveyed()), survey(0, 6, 36, 0), false}, {example(surveyed()), survey(0, 6, 36, 1), true}, {example(surveyed()), survey(0, 6, 32, 1), false}, {example(surveyed()), survey(0, 6, 33, 1), true},
		{example(), survey(0, 6, 33, 0), false}, {example(), survey(0, 6, 30, 0), true}, {example(), survey(0, 6, 31, 0), false}, {example(), survey(0, 6, 34, 0), true}, {example(), survey(0, 0, 43, 0), false}, {example(), survey(0, 0, 47, 5), true}, {example(), survey(0, 0, 0, 0), false}, {example(), survey(0, 0, 200, 5), false},
		{eight, survey(0, 6, 36, 1), true}, {eight, survey(0, 6, 36, 0), false},
		{example(surveys(survey(1, 12, 20, 0))), survey(0, 6, 30, 0), true}, {example(surveys(survey(1, 12, 20, 0))), survey(0, 6, 34, 0), false},
	} {
		if is, e := chain.Fits(x.b, x.survey); is != x.want || e != api.OK {
			t.Errorf("Fits %d: %v, %d", i, is, e)
		}
	}
}

// P1.6
func TestTurn(t *testing.T) {
	thirty := sections(section(just(30), just(3)), section(just(30), just(1)), section(just(30), just(0)))
	for i, x := range []struct {
		b    api.ChainBook
		want int // 0: there is none
	}{
		{example(straight()), 4}, {example(), 4}, {example(surveyed()), 0}, {example(rule(40)), 0}, {example(rule(0)), 0}, {example(rule(22)), 0}, {three(rule(24)), 0}, {three(turns(), thirty), 3},
		{example(straight(), surveys(survey(1, 5, 39, 3))), 5}, {example(straight(), surveys(survey(0, 4, 36, 5))), 4}, {example(straight(), surveys(survey(0, 5, 35, 5), survey(0, 1, 39, 5))), 0},
		{example(straight(), surveys(survey(1, 12, 33, 5))), 0},
		{example(turns(9, 10, 11, 12)), 4}, // there are five then
	} {
		n, e := chain.Turn(x.b)
		if x.want == 0 && (n != 0 || e != api.ErrNone) || x.want != 0 && (n != x.want || e != api.OK) {
			t.Errorf("Turn %d: %d, %d", i, n, e)
		}
	}
}

// P1.1 and P1.7
func TestWrong(t *testing.T) {
	for i, x := range []struct {
		b    api.ChainBook
		want []int
	}{
		{example(), nil}, {example(surveyed()), nil}, {three(surveys(survey(1, 0, 20, 0), survey(1, 6, 15, 0))), []int{0}},
		{example(torn()), []int{1}}, // the survey 1 cannot be right alone, either: the chapter's example, 0, is not what P1.7 says
		{example(surveys(survey(0, 6, 40, 1), survey(0, 6, 34, 1))), []int{0}},
		{example(surveys(survey(0, 0, 40, 0), survey(0, 6, 36, 0))), []int{0}},
		{example(surveys(survey(0, 6, 34, 0), survey(0, 6, 29, 0), survey(0, 12, 28, 0))), []int{1}},
		{example(surveys(survey(0, 0, 50, 5), survey(1, 0, 50, 5))), []int{0, 1}}, {example(surveys(survey(0, 0, 47, 5), survey(1, 0, 34, 5))), nil},
		{example(surveys(survey(0, 0, 40, 0), survey(0, 0, 41, 0), survey(0, 0, 42, 0))), []int{0, 1}},
		{example(surveys(survey(0, 0, 40, 0), survey(0, 0, 41, 0), survey(0, 0, 40, 0))), []int{1}},
		{example(surveys(survey(0, 0, 40, 0), survey(1, 0, 38, 0), survey(0, 0, 41, 0), survey(1, 0, 39, 0))), []int{0, 1}},
		{example(surveys(slices.Repeat([]api.ChainSurvey{survey(0, 0, 0, 0)}, 8)...)), []int{0, 1, 2, 3, 4, 5, 6, 7}},
	} {
		if l, e := chain.Wrong(x.b); !slices.Equal(l, x.want) || e != api.OK {
			t.Errorf("Wrong %d: %v, %d", i, l, e)
		}
		if is, e := chain.Right(x.b); is != (len(x.want) == 0) || e != api.OK {
			t.Errorf("Right %d: %v, %d", i, is, e)
		}
	}
}
