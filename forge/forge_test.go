package forge_test

import (
	"slices"
	"testing"

	"prow/api"
	"prow/forge"
)

// P7.1: what is valid, up to each limit.
func TestValid(t *testing.T) {
	for i, b := range []api.ForgeBook{
		example(), example(poor()), example(surveyed()), example(torn()), great(), even(1, 1), even(10, 20, 20, 20),
		example(feet(1, 30)), example(feet(30, 1)), example(fresh(0)), example(fresh(200)), example(stock(0, 0)), example(stock(200, 9)), example(rule(200)), example(rule(0)),
		example(open()), example(open(0)), example(open(12)), example(open(0, 12)), example(open(0, 1, 2, 3)), example(open(9, 10, 11, 12)), great(open(27, 28, 29, 30)), great(open(0, 1, 29, 30)),
	} {
		if e := forge.Check(b); e != api.OK {
			t.Errorf("Check of the valid book %d: %d", i, e)
		}
	}
}

// wrongBooks has a book beyond each limit.
func wrongBooks() []api.ForgeBook {
	return []api.ForgeBook{
		{}, {Chain: example().Chain}, example(sections()), example(sections(), feet()), example(rule(-1)), example(rule(201)), example(days(0), open()), great(days(31)), example(days(8)), example(turns(13)), example(surveys(survey(2, 0, 0, 0))), example(sections(section(to(40, 44), just(1)), section(just(40), just(1)))), great(surveys(slices.Repeat([]api.ChainSurvey{survey(3, 0, 200, 5)}, 9)...)),
		example(feet()), example(feet(9)), example(feet(9, 6, 3)), example(feet(0, 6)), example(feet(9, 0)), example(feet(31, 6)), example(feet(9, 31)), example(feet(-9, 6)), great(feet(30, 30, 30)), great(feet(30, 30, 30, 30, 30)), great(feet(30, 30, 30, 31)),
		example(fresh(-1)), example(fresh(201)), example(stock(-1, 0)), example(stock(201, 0)), example(stock(0, -1)), example(stock(0, 10)),
		example(open(-1)), example(open(13)), example(open(3, 13)), example(open(-1, 3)), example(open(5, 3)), example(open(5, 5)), example(open(3, 9, 5)), example(open(3, 5, 5)), example(open(1, 2, 3, 4, 5)), great(open(12, 13, 14, 15, 16)), great(open(31)),
	}
}

// notZero is told in place of an error if an error came with another result.
const notZero api.Errno = -1

func told(zero bool, e api.Errno) api.Errno {
	if e != api.OK && !zero {
		return notZero
	}
	return e
}

// counts returns the errors of the functions that are asked for feet.
func counts(b api.ForgeBook, plan []api.ForgeWork) map[string]api.Errno {
	all := map[string]api.Errno{}
	feet, e := forge.Feet(b, plan)
	all["Feet"] = told(feet == 0, e)
	short, e := forge.Short(b, plan)
	all["Short"] = told(short == 0, e)
	return all
}

// asks returns the errors of all others that are asked something.
func asks(b api.ForgeBook, plan []api.ForgeWork, section, day int) map[string]api.Errno {
	all := map[string]api.Errno{}
	least, e := forge.Least(b, plan, section, day)
	all["Least"] = told(least == 0, e)
	safe, e := forge.Safe(b, plan)
	all["Safe"] = told(!safe, e)
	on, at, e := forge.First(b, plan)
	all["First"] = told(on == 0 && at == 0, e)
	return all
}

// tells returns the errors of those that are not.
func tells(b api.ForgeBook) map[string]api.Errno {
	all := map[string]api.Errno{}
	plan, e := forge.Plan(b)
	all["Plan"] = told(len(plan) == 0, e)
	stock, e := forge.Stock(b)
	all["Stock"] = told(stock == 0, e)
	rest, e := forge.Rest(b)
	all["Rest"] = told(rest == 0, e)
	return all
}

// P7.1, R1 and R2: of a wrong book all functions tell first, and return nothing else.
func TestWrongBook(t *testing.T) {
	for i, b := range wrongBooks() {
		if e := forge.Check(b); e != api.ErrForge {
			t.Errorf("Check of the wrong book %d: %d", i, e)
		}
		for _, plan := range [][]api.ForgeWork{nil, works(3, 0), works(3, 0, 5, 1), works(-1, -1), works(5, 0, 3, 0)} {
			for _, all := range []map[string]api.Errno{counts(b, plan), asks(b, plan, 0, 0), asks(b, plan, -1, -1), tells(b)} {
				for name, e := range all {
					if e != api.ErrForge {
						t.Errorf("%s of the wrong book %d by %v: %d", name, i, plan, e)
					}
				}
			}
		}
	}
}

// wrongPlans are none of the example.
func wrongPlans() [][]api.ForgeWork {
	return [][]api.ForgeWork{
		works(0, 0), works(4, 0), works(10, 0), works(12, 1), works(13, 0), works(-1, 0), works(-3, 0), works(3, 2), works(3, -1), works(3, 99), works(99, 99),
		works(5, 0, 3, 0), works(5, 0, 3, 1), works(9, 0, 5, 1), works(5, 1, 5, 0), works(5, 0, 5, 0), works(3, 0, 3, 0, 5, 0), works(3, 1, 5, 0, 4, 1), works(3, 0, 9, 1, 5, 0), works(3, 0, 5, 0, 9, 2), works(3, 0, 3, 1, 3, 2), works(3, 0, 5, 1, 5, 0), works(3, 0, 9, 1, 9, 1),
		slices.Concat(works(3, 0, 3, 1, 5, 0, 5, 1, 9, 0, 9, 1), works(9, 1)), slices.Concat(works(3, 0, 3, 1, 5, 0, 5, 1, 9, 0, 9, 1), works(10, 0)),
	}
}

// P7.1 to P7.3, and R1: a wrong question comes before surveys that cannot be right.
func TestWrongQuestion(t *testing.T) {
	books := []api.ForgeBook{example(), example(poor()), example(surveyed()), example(torn())}
	for i, b := range books {
		for _, plan := range wrongPlans() {
			for _, all := range []map[string]api.Errno{counts(b, plan), asks(b, plan, 0, 0), asks(b, plan, 9, 99)} {
				for name, e := range all {
					if e != api.ErrForgeAsk {
						t.Errorf("%s of the book %d by %v: %d", name, i, plan, e)
					}
				}
			}
		}
		for _, at := range []api.ForgeWork{on(0, -1), on(0, 2), on(0, 99), on(-1, 0), on(13, 0), on(99, 1), on(-1, -1)} {
			for _, plan := range [][]api.ForgeWork{nil, works(3, 1, 5, 0, 9, 1)} {
				if e := asks(b, plan, at.Section, at.Day)["Least"]; e != api.ErrForgeAsk {
					t.Errorf("Least of the book %d, %v: %d", i, at, e)
				}
			}
		}
	}
	if e := counts(example(open()), works(3, 0))["Feet"]; e != api.ErrForgeAsk {
		t.Errorf("Feet of a plan with no days in Open: %d", e)
	}
}

// All plans of the example are plans.
func TestPlans(t *testing.T) {
	b := example()
	for _, plan := range plans(b) {
		for _, all := range []map[string]api.Errno{counts(b, plan), asks(b, plan, 1, 12)} {
			for name, e := range all {
				if e != api.OK && e != api.ErrNone {
					t.Errorf("%s by %v: %d", name, plan, e)
				}
			}
		}
	}
}

// P7.1 to P7.6: of a chain that cannot be true. Feet and Short are told, though.
func TestFalse(t *testing.T) {
	for i, b := range []api.ForgeBook{
		example(torn()), example(surveys(survey(0, 0, 39, 0))), example(surveys(survey(0, 0, 43, 0))), example(surveys(survey(0, 12, 21, 0))), example(surveys(survey(1, 12, 40, 5)), open()), example(torn(), rule(0)), great(surveys(survey(0, 30, 0, 5))),
	} {
		for _, all := range []map[string]api.Errno{asks(b, nil, 0, 0), tells(b)} {
			for name, e := range all {
				if e != api.ErrForgeFalse {
					t.Errorf("%s of the book %d: %d", name, i, e)
				}
			}
		}
	}
	if e := asks(example(torn()), works(3, 1, 5, 0, 9, 1), 1, 12)["Least"]; e != api.ErrForgeFalse {
		t.Errorf("Least by a plan: %d", e)
	}
}

// P7.1
func TestLeast(t *testing.T) {
	three := example(sections(section(just(60), just(3)), section(to(60, 61), to(0, 2)), section(just(60), just(1))), turns(4, 9), feet(1, 1, 1))
	for i, x := range []struct {
		b            api.ForgeBook
		plan         []api.ForgeWork
		section, day int
		want         int
	}{
		{example(), nil, 0, 0, 40}, {example(), nil, 1, 0, 38}, {example(), nil, 0, 6, 28}, {example(), nil, 0, 12, 22}, {example(), nil, 1, 6, 32}, {example(), nil, 1, 12, 20}, {example(surveyed()), nil, 0, 6, 34}, {example(surveyed()), nil, 1, 12, 26},
		{example(), works(5, 0), 0, 4, 32}, {example(), works(5, 0), 0, 5, 40}, {example(), works(5, 0), 0, 6, 38}, {example(), works(5, 0), 0, 7, 37}, {example(), works(5, 0), 0, 12, 32}, {example(), works(5, 0), 1, 5, 33}, {example(), works(5, 0), 1, 12, 20}, {example(), works(5, 0, 5, 1), 0, 6, 38}, {example(), works(5, 0, 5, 1), 1, 6, 39}, {example(), works(5, 0, 5, 1), 1, 4, 34},
		{example(), works(3, 1), 1, 2, 36}, {example(), works(3, 1), 1, 3, 40}, {example(), works(3, 1), 1, 6, 37}, {example(), works(3, 1), 1, 7, 35}, {example(), works(3, 1), 1, 8, 33}, {example(), works(3, 1, 9, 1), 1, 8, 33}, {example(), works(3, 1, 9, 1), 1, 9, 40}, {example(), works(3, 1, 9, 1), 1, 12, 34}, {example(), works(3, 1, 5, 1, 9, 1), 1, 8, 35},
		{example(surveyed()), works(5, 0), 0, 12, 33}, {example(surveyed()), works(5, 0), 0, 5, 40}, {example(surveys(survey(1, 6, 39, 0))), works(5, 1), 1, 12, 28}, {example(surveys(survey(1, 6, 39, 0))), works(5, 0), 0, 12, 38}, // surveys tell how places wear
		{example(fresh(2)), works(3, 0), 0, 12, -10}, {example(fresh(0)), works(3, 0), 0, 3, 0}, {example(fresh(0)), works(3, 0), 0, 4, -2}, {example(fresh(200)), works(3, 0), 0, 12, 188}, {example(fresh(2)), works(3, 0), 0, 2, 36},
		{example(open(0, 12)), works(0, 0), 0, 0, 40}, {example(open(0, 12), fresh(50)), works(0, 0), 0, 0, 50}, {example(open(0, 12)), works(0, 0), 0, 12, 22}, {example(open(0, 12)), works(0, 0, 12, 0), 0, 12, 40}, {example(open(0, 12)), works(0, 0, 12, 0), 0, 11, 23}, {example(open(0, 12)), works(12, 1), 1, 12, 40}, {example(open(0, 12)), works(12, 1), 1, 11, 22},
		{example(turns()), works(5, 0), 0, 12, 26}, {example(turns(5)), works(5, 0), 0, 6, 39}, {example(turns(5)), works(5, 0), 0, 12, 33}, {example(turns(5)), works(5, 1), 1, 6, 38}, {example(turns(12)), works(5, 0), 0, 12, 26}, {example(turns(4, 8)), works(5, 0), 0, 12, 40 - 3 - 8}, {example(turns(4, 5)), works(5, 0), 0, 12, 26}, {example(turns(6, 7, 8)), works(5, 0), 0, 12, 40 - 2 - 1 - 2 - 4},
		{three, works(3, 0), 0, 12, 40 - 3 - 5 - 9}, {three, works(3, 1), 1, 12, 40 - 18}, {three, works(3, 2), 2, 12, 40 - 1 - 15 - 3}, {three, works(3, 2), 0, 12, 60 - 12 - 5 - 9},
		{great(), works(15, 3), 3, 30, 200 - 45}, {great(), works(12, 0, 13, 0, 14, 0, 15, 0), 0, 14, 200},
	} {
		if n, e := forge.Least(x.b, x.plan, x.section, x.day); n != x.want || e != api.OK {
			t.Errorf("Least %d: %d, %d", i, n, e)
		}
	}
}

// P7.2
func TestSafeAndFirst(t *testing.T) {
	six := with(even(10, 20), open(6, 7, 10))
	for i, x := range []struct {
		b    api.ForgeBook
		plan []api.ForgeWork
		want answer
	}{
		{example(), nil, at(6, 0, api.OK)}, {example(), works(5, 0), at(8, 1, api.OK)}, {example(), works(5, 0, 5, 1), at(11, 1, api.OK)}, {example(), works(3, 1, 5, 0, 9, 1), at(0, 0, api.ErrNone)}, {example(poor()), works(3, 1, 5, 0, 9, 1), at(0, 0, api.ErrNone)}, {example(), works(3, 1, 5, 0), at(10, 1, api.OK)}, {example(), works(9, 0, 9, 1), at(6, 0, api.OK)}, {example(surveyed()), nil, at(9, 1, api.OK)}, {example(surveyed()), works(9, 1), at(11, 0, api.OK)}, {example(surveyed()), works(9, 0, 9, 1), at(0, 0, api.ErrNone)},
		{even(5, 20), nil, at(0, 0, api.ErrNone)}, {even(6, 20), nil, at(6, 0, api.OK)}, {six, nil, at(6, 0, api.OK)}, {six, works(6, 0), at(10, 0, api.OK)}, {six, works(7, 0), at(6, 0, api.OK)}, {six, works(6, 0, 7, 0), at(0, 0, api.ErrNone)}, {six, works(6, 0, 10, 0), at(0, 0, api.ErrNone)}, {six, works(10, 0), at(6, 0, api.OK)}, // a section is changed at the beginning of the day
		{even(10, 20, 20), nil, at(6, 0, api.OK)}, {even(10, 20, 19), nil, at(5, 1, api.OK)}, {even(10, 19, 20), nil, at(5, 0, api.OK)}, {with(even(10, 20, 20), open(6)), works(6, 0), at(6, 1, api.OK)}, {with(even(10, 20, 19), open(6)), works(6, 0, 6, 1), at(5, 1, api.OK)}, {even(10, 99, 99, 99, 15), nil, at(1, 3, api.OK)}, {even(10, 99, 99, 14), nil, at(0, 2, api.OK)},
		{with(even(5, 20), open(2), fresh(14)), works(2, 0), at(2, 0, api.OK)}, {with(even(5, 20), open(5), fresh(15)), works(5, 0), at(0, 0, api.ErrNone)}, {with(even(5, 20), open(5), fresh(14)), works(5, 0), at(5, 0, api.OK)}, {with(even(5, 20), open(4), fresh(15)), works(4, 0), at(5, 0, api.OK)}, // a new one can be too thin, too
		{with(even(3, 14), open(0)), works(0, 0), at(0, 0, api.ErrNone)}, {with(even(3, 14), open(1)), works(1, 0), at(0, 0, api.OK)}, {with(even(4, 14), open(0)), works(0, 0), at(4, 0, api.OK)}, {with(even(4, 14), rule(0)), nil, at(0, 0, api.ErrNone)}, {with(even(4, 4), rule(0), open(4)), nil, at(0, 0, api.ErrNone)}, {with(even(4, 4), rule(1)), nil, at(4, 0, api.OK)},
	} {
		if got := at(forge.First(x.b, x.plan)); got != x.want {
			t.Errorf("First %d: %v", i, got)
		}
		if safe, e := forge.Safe(x.b, x.plan); safe != (x.want.e == api.ErrNone) || e != api.OK {
			t.Errorf("Safe %d: %v, %d", i, safe, e)
		}
	}
}

// P7.3
func TestFeetAndShort(t *testing.T) {
	all := works(3, 0, 3, 1, 5, 0, 5, 1, 9, 0, 9, 1)
	for i, x := range []struct {
		b     api.ForgeBook
		plan  []api.ForgeWork
		feet  int
		short answer
	}{
		{example(), nil, 0, none()}, {example(), works(5, 0), 9, none()}, {example(), works(3, 1, 5, 0, 9, 1), 21, none()}, {example(poor()), works(3, 1, 5, 0, 9, 1), 21, day(2)}, {example(torn()), works(3, 1, 5, 0, 9, 1), 21, none()}, {example(torn(), poor()), works(3, 1, 5, 0, 9, 1), 21, day(2)}, {example(), all, 45, day(2)},
		{example(stock(0, 0)), nil, 0, none()}, {example(stock(6, 0)), works(3, 1), 6, none()}, {example(stock(5, 0)), works(3, 1), 6, day(0)}, {example(stock(14, 0)), works(3, 1, 5, 0), 15, day(1)}, {example(stock(15, 0)), works(3, 1, 5, 0), 15, none()}, {example(stock(14, 0)), works(5, 0, 5, 1), 15, day(1)}, {example(stock(8, 0)), works(5, 0, 5, 1), 15, day(0)}, {example(stock(8, 0)), works(3, 0, 3, 1), 15, day(0)}, // nothing is left of what lacks
		{example(stock(0, 2)), works(3, 1), 6, none()}, {example(stock(0, 2)), works(3, 0), 9, day(0)}, {example(stock(0, 3)), works(3, 0), 9, none()}, {example(stock(0, 2)), works(3, 1, 9, 0), 15, none()}, {example(stock(0, 2)), works(3, 1, 9, 0, 9, 1), 21, day(2)}, {example(stock(0, 1)), works(9, 0), 9, none()}, {example(stock(0, 1)), works(9, 0, 9, 1), 15, day(1)}, {example(stock(5, 9)), all, 45, none()}, {example(stock(0, 9)), all, 45, none()}, {example(stock(1, 4)), works(5, 0, 5, 1, 9, 0), 24, none()},
		{example(stock(0, 9), open(0, 1)), works(0, 1), 6, day(0)}, {example(stock(6, 9), open(0, 1)), works(0, 1, 1, 0), 15, none()}, {example(stock(6, 8), open(0, 1)), works(0, 1, 1, 0), 15, day(1)}, {example(stock(5, 9), open(0, 1)), works(0, 1, 1, 0), 15, day(0)}, {example(stock(6, 9), open(0, 1)), works(0, 0, 1, 1), 15, day(0)}, // what is made on a day is in stock on the next one
		{great(), works(12, 0, 12, 1, 12, 2, 12, 3, 13, 0, 13, 1, 13, 2, 13, 3, 14, 0, 14, 1, 14, 2, 14, 3, 15, 0, 15, 1, 15, 2, 15, 3), 480, day(10)},
	} {
		if n, e := forge.Feet(x.b, x.plan); n != x.feet || e != api.OK {
			t.Errorf("Feet %d: %d, %d", i, n, e)
		}
		if got := number(forge.Short(x.b, x.plan)); got != x.short {
			t.Errorf("Short %d: %v", i, got)
		}
	}
}

// P7.4 to P7.6
func TestPlan(t *testing.T) {
	no, nothing := list(nil, api.ErrNone), list(nil, api.OK)
	by := func(l ...int) answer { return list(works(l...), api.OK) }
	wide := with(even(10, 20, 20, 20, 20), feet(30, 30, 30, 30), open(6, 10))
	either := with(even(8, 20), open(5, 6), feet(9))
	two := with(even(8, 20, 20), open(3, 6), fresh(20))
	for i, x := range []struct {
		b           api.ForgeBook
		plan        answer
		stock, rest answer
	}{
		{example(), by(3, 1, 5, 0, 9, 1), day(12), day(7)}, {example(poor()), no, day(12), day(7)}, {example(rule(20)), nothing, day(0), none()}, {example(open()), no, none(), none()}, {example(open(5)), no, none(), day(7)}, {example(rule(39)), no, none(), none()}, {example(open(5, 7)), by(5, 0, 7, 1), day(8), none()}, {example(surveyed(), open(9)), by(9, 0, 9, 1), day(6), none()},
		{even(5, 20), nothing, day(0), none()}, {with(even(5, 20), open(0, 1, 2, 3), stock(0, 0)), nothing, day(0), none()}, {even(6, 20), no, none(), day(3)}, {with(even(6, 20), open(2)), no, none(), day(3)}, {with(even(6, 20), open(3)), by(3, 0), day(4), none()}, {with(even(10, 20), open(6, 10)), by(6, 0, 10, 0), day(8), none()}, {with(even(10, 20), open(6, 10), stock(8, 0)), by(6, 0, 10, 0), day(8), none()}, {with(even(10, 20), open(6, 10), stock(7, 0)), no, day(8), none()}, {with(even(10, 20), open(6, 10), stock(0, 1)), by(6, 0, 10, 0), day(0), none()},
		{either, by(5, 0), day(9), none()}, {with(either, stock(4, 1)), by(5, 0), day(3), none()}, {with(either, stock(3, 1)), by(6, 0), day(3), none()}, {with(either, stock(2, 1)), no, day(3), none()}, {with(either, open(6)), by(6, 0), day(9), none()}, {with(even(9, 20), open(5, 6)), by(6, 0), day(4), none()}, {with(even(9, 20), open(5, 7)), by(5, 0, 7, 0), day(8), day(6)}, // with more in stock a section can be changed sooner; with less no sooner than it must
		{two, by(3, 0, 3, 1), day(8), none()}, {with(two, feet(9, 4), stock(1, 2)), by(3, 1, 6, 0), day(1), none()}, {with(two, feet(4, 9), stock(1, 2)), by(3, 0, 6, 1), day(1), none()}, {with(two, stock(2, 1)), by(3, 0, 6, 1), day(2), none()}, {with(two, stock(0, 1)), no, day(2), none()}, {with(two, stock(8, 9)), by(3, 0, 3, 1), day(0), none()},
		{wide, no, none(), none()}, {with(wide, stock(200, 3)), no, none(), none()}, {with(wide, stock(200, 4)), by(6, 0, 6, 1, 6, 2, 6, 3, 10, 0, 10, 1, 10, 2, 10, 3), day(200), none()}, {with(wide, stock(199, 4)), no, day(200), none()}, {with(wide, feet(25, 25, 25, 25)), by(6, 0, 6, 1, 6, 2, 6, 3, 10, 0, 10, 1, 10, 2, 10, 3), day(200), none()}, // the stock is at most 200
		{even(3, 14), no, none(), day(0)}, {with(even(4, 14), open(0)), no, none(), day(1)}, {with(even(4, 14), open(0), stock(4, 1)), no, none(), day(4)}, {with(even(4, 14), open(0), stock(4, 0)), no, none(), none()}, {with(even(3, 14), open(0)), by(0, 0), day(4), none()}, {with(even(3, 14), stock(3, 9)), no, none(), none()}, // from the day 0 to the last one
		{with(even(8, 20), open(4, 8)), by(4, 0, 8, 0), day(8), day(5)}, {with(even(10, 20), open(0, 1, 2, 6)), no, none(), day(7)}, {with(even(10, 20), open(0, 1, 2, 7)), no, none(), day(3)}, {with(even(8, 20), open(1, 2, 4, 7), stock(3, 1)), by(4, 0, 7, 0), day(1), day(5)}, {with(even(8, 20), open(1, 2, 4, 8), stock(8, 0)), by(4, 0, 8, 0), day(8), day(5)}, {with(even(8, 20), open(1, 2, 4, 8), stock(0, 0)), no, day(8), none()}, // five days
		{with(even(5, 20, 18), open(2), fresh(14)), no, none(), none()}, {with(even(5, 20, 18), open(2), fresh(17)), no, none(), day(3)}, {with(even(5, 20, 18), open(2), fresh(18)), by(2, 1), day(4), none()}, {example(fresh(0)), no, none(), none()},
	} {
		if got := list(forge.Plan(x.b)); got.e != x.plan.e || !slices.Equal(got.value.([]api.ForgeWork), x.plan.value.([]api.ForgeWork)) {
			t.Errorf("Plan %d: %v", i, got)
		}
		if got := number(forge.Stock(x.b)); got != x.stock {
			t.Errorf("Stock %d: %v", i, got)
		}
		if got := number(forge.Rest(x.b)); got != x.rest {
			t.Errorf("Rest %d: %v", i, got)
		}
	}
}
