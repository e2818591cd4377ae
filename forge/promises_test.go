package forge_test

import (
	"math"
	"math/rand/v2"
	"reflect"
	"slices"
	"testing"

	"prow/api"
	"prow/chain"
	"prow/forge"
)

// answers returns what all functions return, by some plans, and of all sections and days.
func answers(b api.ForgeBook) []answer {
	l := []answer{number(0, forge.Check(b)), list(forge.Plan(b)), number(forge.Stock(b)), number(forge.Rest(b))}
	r := rolls(99)
	for range 5 {
		plan := anyPlan(r, b)
		l = append(l, is(forge.Safe(b, plan)), at(forge.First(b, plan)), number(forge.Feet(b, plan)), number(forge.Short(b, plan)))
		for section := range b.Feet {
			for day := range 13 {
				l = append(l, number(forge.Least(b, plan, section, day)))
			}
		}
	}
	return l
}

// P1: no argument makes a function panic, or never end.
func TestAnyArgument(t *testing.T) {
	odd := []int{math.MinInt, math.MinInt32, -1, 0, 1, 2, 3, 12, 200, math.MaxInt32, math.MaxInt}
	many := make([]int, 1<<16)
	for n := range many {
		many[n] = n
	}
	long := make([]api.ForgeWork, 1<<16)
	for n := range long {
		long[n] = on(n, 0)
	}
	books := []api.ForgeBook{{}, example(), example(torn()), great(), example(feet(many...)), example(open(many...)), example(sections(make([]api.ChainSection, 1<<16)...), feet(many...))}
	for _, n := range odd {
		books = append(books, example(feet(9, n)), example(fresh(n)), example(open(n)), example(open(3, n)), example(rule(n)), example(days(n)), example(days(n), open(n)), example(turns(n)))
		for _, m := range odd {
			books = append(books, example(stock(n, m)), example(feet(n, m)), example(open(n, m)), example(surveys(survey(n, m, n, m))), api.ForgeBook{Chain: api.ChainBook{Sections: []api.ChainSection{section(to(n, m), to(m, n))}, Turns: []int{m}, Rule: n, Days: m}, Feet: []int{m}, New: n, Open: []int{m, n}, Stock: m, Make: n})
		}
	}
	for i, b := range books {
		valid := forge.Check(b) == api.OK
		plans := [][]api.ForgeWork{nil, long, slices.Repeat(works(3, 0), 1<<10)}
		for _, n := range odd {
			plans = append(plans, works(n, 0), works(3, n), works(n, n, 5, 0), works(3, 0, n, 1))
		}
		for j, plan := range plans {
			n := odd[j%len(odd)]
			for _, all := range []map[string]api.Errno{counts(b, plan), asks(b, plan, n, 0), asks(b, plan, 0, n)} {
				for name, e := range all {
					if e == notZero || valid == (e == api.ErrForge) {
						t.Errorf("%s of the book %d, %d: %d", name, i, j, e)
					}
				}
			}
		}
		for name, e := range tells(b) {
			if e == notZero || valid == (e == api.ErrForge) {
				t.Errorf("%s of the book %d: %d", name, i, e)
			}
		}
	}
}

// P2: what was called before does not matter.
func TestSameAgain(t *testing.T) {
	r := rolls(2)
	var books []api.ForgeBook
	var first [][]answer
	for range 100 {
		b := wildBook(r)
		books, first = append(books, b), append(first, answers(b))
	}
	for i := range books {
		i = len(books) - 1 - i
		if !reflect.DeepEqual(answers(books[i]), first[i]) {
			t.Errorf("another answer of the book %d", i)
		}
	}
}

// R3
func TestNilAndEmpty(t *testing.T) {
	for i, b := range []api.ForgeBook{example(), example(rule(20)), example(open()), even(5, 20), example(sections(), feet()), {}} {
		nothing, empty := clone(b), clone(b)
		nothing.Chain.Turns, empty.Chain.Turns = nil, []int{}
		nothing.Chain.Surveys, empty.Chain.Surveys = nil, []api.ChainSurvey{}
		nothing.Open, empty.Open = nil, []int{}
		if len(b.Feet) == 0 {
			nothing.Feet, empty.Feet = nil, []int{}
			nothing.Chain.Sections, empty.Chain.Sections = nil, []api.ChainSection{}
		}
		if !reflect.DeepEqual(answers(nothing), answers(empty)) {
			t.Errorf("nil and empty lists of the book %d differ", i)
		}
		for name, all := range map[string]func(plan []api.ForgeWork) map[string]api.Errno{
			"a count": func(plan []api.ForgeWork) map[string]api.Errno { return counts(b, plan) },
			"another": func(plan []api.ForgeWork) map[string]api.Errno { return asks(b, plan, 0, 0) },
		} {
			if !reflect.DeepEqual(all(nil), all([]api.ForgeWork{})) {
				t.Errorf("nil and empty plans of the book %d differ in %s", i, name)
			}
		}
	}
}

// P7.7 and R4: what lies behind an argument's end stays, too.
func TestArgumentsStay(t *testing.T) {
	spare := func(b api.ForgeBook) api.ForgeBook {
		b.Chain.Sections = append(b.Chain.Sections, section(just(77), just(7)))[:len(b.Chain.Sections)]
		b.Chain.Turns = append(b.Chain.Turns, 777, 777)[:len(b.Chain.Turns)]
		b.Chain.Surveys = append(b.Chain.Surveys, survey(7, 7, 7, 7))[:len(b.Chain.Surveys)]
		b.Feet = append(b.Feet, 77, 77)[:len(b.Feet)]
		b.Open = append(b.Open, 77, 77)[:len(b.Open)]
		return b
	}
	all := func(b api.ForgeBook) api.ForgeBook {
		c := &b.Chain
		c.Sections, c.Turns, c.Surveys = c.Sections[:cap(c.Sections)], c.Turns[:cap(c.Turns)], c.Surveys[:cap(c.Surveys)]
		b.Feet, b.Open = b.Feet[:cap(b.Feet)], b.Open[:cap(b.Open)]
		return b
	}
	r := rolls(3)
	books := []api.ForgeBook{example(), example(poor()), example(surveyed()), example(torn()), example(open(5))}
	for range 60 {
		books = append(books, wildBook(r))
	}
	for i, b := range books {
		b = spare(clone(b))
		before := clone(all(b))
		answers(b)
		if !reflect.DeepEqual(all(b), before) {
			t.Errorf("the book %d was changed: %v, %v", i, before, all(b))
		}
	}
}

// P7.7 and R4: plans stay, too.
func TestPlansStay(t *testing.T) {
	b := example()
	for _, plan := range append(plans(b), wrongPlans()...) {
		plan = append(plan, on(77, 77), on(77, 77))
		before := slices.Clone(plan)
		part := plan[:len(plan)-2]
		counts(b, part)
		asks(b, part, 1, 12)
		if !slices.Equal(plan, before) {
			t.Errorf("the plan %v was changed: %v", before, plan)
		}
	}
}

// P7.7 and R4
func TestResultsAreNew(t *testing.T) {
	b := example()
	first, _ := forge.Plan(b)
	want := slices.Clone(first)
	for i := range first {
		first[i] = on(99, 99)
	}
	first = append(first, on(99, 99))
	if again, e := forge.Plan(b); !slices.Equal(again, want) || len(want) != 3 || e != api.OK {
		t.Errorf("Plan keeps its result: %v, %d", again, e)
	}
}

// P7.7: nothing of an argument is kept, though it is changed afterwards.
func TestArgumentsAreNotKept(t *testing.T) {
	b := example(surveyed())
	want := answers(b)
	b.Chain.Surveys[0].Read, b.Feet[0], b.Open[1] = 29, 3, 6
	if reflect.DeepEqual(answers(b), want) {
		t.Error("the answers are those of the book as it was")
	}
	if !reflect.DeepEqual(answers(example(surveyed())), want) {
		t.Error("the answers are not those of the book as it was")
	}
}

func isSafe(t *testing.T, b api.ForgeBook, plan []api.ForgeWork) bool {
	t.Helper()
	safe, e := forge.Safe(b, plan)
	if e != api.OK {
		t.Fatalf("Safe of %v by %v: %d", b, plan, e)
	}
	return safe
}

// fewest is how many feet the plan takes that is told; more than any, if there is none.
func fewest(t *testing.T, b api.ForgeBook) int {
	t.Helper()
	plan, e := forge.Plan(b)
	if e == api.ErrNone {
		return math.MaxInt
	}
	n, f := forge.Feet(b, plan)
	if e != api.OK || f != api.OK {
		t.Fatalf("Plan of %v: %v, %d; Feet: %d", b, plan, e, f)
	}
	return n
}

// P7.8: whatever is truly so, by a plan that is told to be safe.
func TestNoLinkIsTooThin(t *testing.T) {
	r := rolls(8)
	for found := 0; found < 300; {
		b, w := anyBook(r)
		l, e := forge.Plan(b)
		if e == api.OK && !isSafe(t, b, l) {
			t.Fatalf("Plan of %v: %v is not safe", b, l)
		}
		for _, plan := range append(plans(b), l) {
			if len(plan) == 0 && r.IntN(4) > 0 || !isSafe(t, b, plan) {
				continue
			}
			found++
			for section, days := range w.wears(b, plan) {
				if n := slices.Min(days); n < b.Chain.Rule {
					t.Fatalf("%v is safe by %v, but in %v the section %d is %d thick", b, plan, w, section, n)
				}
			}
		}
	}
}

// P7.2: a section that is told to be too thin truly is, in some truth, if it was not changed before.
func TestTooThinInSomeTruth(t *testing.T) {
	r := rolls(18)
	for found := 0; found < 200; {
		b, _ := anyBook(r)
		plan := anyPlan(r, b)
		day, section, e := forge.First(b, plan)
		if e != api.OK || slices.ContainsFunc(plan, func(w api.ForgeWork) bool { return w.Section == section && w.Day <= day }) {
			continue
		}
		found++
		if !slices.ContainsFunc(truths(b), func(w truth) bool { return w.wears(b, plan)[section][day] < b.Chain.Rule }) {
			t.Fatalf("First of %v by %v: %d, %d", b, plan, day, section)
		}
	}
}

// P7.9
func TestTheFewestFeet(t *testing.T) {
	r := rolls(9)
	for found := 0; found < 150; {
		b, _ := anyBook(r)
		l, e := forge.Plan(b)
		if len(l) == 0 && r.IntN(4) > 0 {
			continue
		}
		found++
		most := fewest(t, b)
		for _, plan := range plans(b) {
			_, short := forge.Short(b, plan)
			good := isSafe(t, b, plan) && short == api.ErrNone
			n, _ := forge.Feet(b, plan)
			if good && (n < most || n == most && before(plan, l)) || !good && e == api.OK && slices.Equal(plan, l) {
				t.Fatalf("Plan of %v: %v, %d; %v is good: %v", b, l, e, plan, good)
			}
		}
	}
}

// P7.10: with the stock that is told there is a good plan, and not with a foot less.
func TestTheStock(t *testing.T) {
	r := rolls(10)
	for found := 0; found < 200; {
		b, _ := anyBook(r)
		n, e := forge.Stock(b)
		if e != api.OK {
			if most := with(b, stock(api.ForgeStock, b.Make)); fewest(t, most) < math.MaxInt {
				t.Fatalf("Stock of %v: %d", b, e)
			}
			continue
		}
		if n == 0 && r.IntN(4) > 0 {
			continue
		}
		found++
		if fewest(t, with(b, stock(n, b.Make))) == math.MaxInt || n > 0 && fewest(t, with(b, stock(n-1, b.Make))) < math.MaxInt {
			t.Fatalf("Stock of %v: %d", b, n)
		}
	}
}

// P7.10: with more stock, a day more to rest, or one survey more, no plan takes more feet.
func TestMoreOfIt(t *testing.T) {
	r := rolls(11)
	for found := 0; found < 300; {
		b, w := anyBook(r)
		most := fewest(t, b)
		if most == 0 && r.IntN(4) > 0 {
			continue
		}
		found++
		day := r.IntN(b.Chain.Days + 1)
		more := []api.ForgeBook{
			with(b, stock(b.Stock+1+r.IntN(20), b.Make)), with(b, stock(b.Stock, b.Make+1+r.IntN(3))),
			with(b, func(b *api.ForgeBook) { b.Chain.Surveys = append(b.Chain.Surveys, rightly(r, *b, w)) }),
		}
		if len(b.Open) < api.ForgeOpen && !slices.Contains(b.Open, day) {
			more = append(more, with(b, func(b *api.ForgeBook) { b.Open = append(b.Open, day); slices.Sort(b.Open) }))
		}
		for _, then := range more {
			if n := fewest(t, then); n > most {
				t.Fatalf("%d feet of %v; before %d of %v", n, then, most, b)
			}
		}
	}
}

// P7.6: the day that is told, and no other one, lets fewer feet be taken than without, nor as few and sooner.
func TestTheRest(t *testing.T) {
	r := rolls(12)
	for found := 0; found < 150; {
		b, _ := anyBook(r)
		told, e := forge.Rest(b)
		if len(b.Open) == api.ForgeOpen || e != api.OK && r.IntN(4) > 0 {
			continue
		}
		found++
		best, day := fewest(t, b), -1
		for on := range b.Chain.Days + 1 {
			if slices.Contains(b.Open, on) {
				continue
			}
			if n := fewest(t, with(b, func(b *api.ForgeBook) { b.Open = append(b.Open, on); slices.Sort(b.Open) })); n < best {
				best, day = n, on
			}
		}
		if day < 0 && e != api.ErrNone || day >= 0 && (e != api.OK || told != day) {
			t.Fatalf("Rest of %v: %d, %d; not %d", b, told, e, day)
		}
	}
}

// P7.11: on the day on which it is changed.
func TestAsThickAsNew(t *testing.T) {
	r := rolls(13)
	for range 200 {
		b, _ := anyBook(r)
		plan := anyPlan(r, b)
		for _, w := range plan {
			if n, e := forge.Least(b, plan, w.Section, w.Day); n != b.New || e != api.OK {
				t.Fatalf("Least of %v by %v, %v: %d, %d", b, plan, w, n, e)
			}
		}
	}
}

// P7.11: without works all is as layer 1 says; so it is up to the first work of a section.
func TestAsLayer1Says(t *testing.T) {
	r := rolls(14)
	for range 200 {
		b, _ := anyBook(r)
		plan := anyPlan(r, b)
		soonest := at(0, 0, api.ErrNone)
		for section := len(b.Feet) - 1; section >= 0; section-- {
			thin, e := chain.Thin(b.Chain, section)
			if e == api.OK && (soonest.e != api.OK || thin <= soonest.value.(api.ForgeWork).Day) {
				soonest = at(thin, section, api.OK)
			}
			changed := false
			for day := range b.Chain.Days + 1 {
				changed = changed || slices.Contains(plan, on(day, section))
				thick, _ := chain.Thick(b.Chain, section, day)
				same(t, b, "Least", number(forge.Least(b, nil, section, day)), number(thick.Low, api.OK))
				if !changed {
					same(t, b, "Least", number(forge.Least(b, plan, section, day)), number(thick.Low, api.OK))
				}
			}
		}
		same(t, b, "First", at(forge.First(b, nil)), soonest)
	}
}

// P7.12
func TestFeetOneByOne(t *testing.T) {
	r := rolls(15)
	for range 500 {
		b := wildBook(r)
		plan := anyPlan(r, b)
		sum := 0
		for i := range plan {
			n, e := forge.Feet(b, plan[i:i+1])
			if e != api.OK {
				t.Fatalf("Feet of %v by %v: %d", b, plan[i], e)
			}
			sum += n
		}
		same(t, b, "Feet", number(forge.Feet(b, plan)), day(sum))
		n, e := forge.Short(b, plan)
		if ever := b.Stock + b.Make*b.Chain.Days; e == api.ErrNone && sum > ever {
			t.Fatalf("Short of %v by %v: none, but it takes %d", b, plan, sum)
		}
		if e == api.OK { // the works before it do not
			same(t, b, "Short", number(forge.Short(b, plan[:n])), none())
		}
	}
}

// fromTheOtherEnd tells of the same chain, from its other end.
func fromTheOtherEnd(b api.ForgeBook) api.ForgeBook {
	b = clone(b)
	slices.Reverse(b.Chain.Sections)
	slices.Reverse(b.Feet)
	for i := range b.Chain.Surveys {
		b.Chain.Surveys[i].Section = len(b.Feet) - 1 - b.Chain.Surveys[i].Section
	}
	return b
}

// Which end of the chain is the first one matters to which plan comes first alone.
func TestOtherEnd(t *testing.T) {
	r := rolls(16)
	for range 200 {
		b, _ := anyBook(r)
		o := fromTheOtherEnd(b)
		same(t, b, "Stock", number(forge.Stock(b)), number(forge.Stock(o)))
		same(t, b, "Rest", number(forge.Rest(b)), number(forge.Rest(o)))
		if fewest(t, b) != fewest(t, o) {
			t.Fatalf("%d feet of %v; from the other end %d", fewest(t, b), b, fewest(t, o))
		}
	}
}

// shuffled tells the surveys in another order.
func shuffled(r *rand.Rand, b api.ForgeBook) api.ForgeBook {
	b = clone(b)
	l := b.Chain.Surveys
	r.Shuffle(len(l), func(i, j int) { l[i], l[j] = l[j], l[i] })
	return b
}

// In which order surveys are told does not matter.
func TestSurveysInAnotherOrder(t *testing.T) {
	r := rolls(17)
	for range 100 {
		b := wildBook(r)
		if here, there := answers(b), answers(shuffled(r, b)); !reflect.DeepEqual(here, there) {
			t.Fatalf("%v: %v; in another order %v", b, here, there)
		}
	}
}
