package forge_test

import (
	"math/rand/v2"
	"slices"

	"prow/api"
)

func to(low, high int) api.Span { return api.Span{Low: low, High: high} }

func just(n int) api.Span { return to(n, n) }

func section(thick, wear api.Span) api.ChainSection {
	return api.ChainSection{Thick: thick, Wear: wear}
}

func survey(at, day, read, by int) api.ChainSurvey {
	return api.ChainSurvey{Section: at, Day: day, Read: read, Error: by}
}

func on(day, section int) api.ForgeWork { return api.ForgeWork{Day: day, Section: section} }

// works is a plan: a day and a section, and so on.
func works(l ...int) []api.ForgeWork {
	var plan []api.ForgeWork
	for pair := range slices.Chunk(l, 2) {
		plan = append(plan, on(pair[0], pair[1]))
	}
	return plan
}

type change func(b *api.ForgeBook)

func with(b api.ForgeBook, changes ...change) api.ForgeBook {
	b = clone(b)
	for _, c := range changes {
		c(&b)
	}
	return b
}

func clone(b api.ForgeBook) api.ForgeBook {
	c := &b.Chain
	c.Sections, c.Turns, c.Surveys = slices.Clone(c.Sections), slices.Clone(c.Turns), slices.Clone(c.Surveys)
	b.Feet, b.Open = slices.Clone(b.Feet), slices.Clone(b.Open)
	return b
}

// example is the book of the document's chapter, changed.
func example(changes ...change) api.ForgeBook {
	return with(api.ForgeBook{
		Chain: api.ChainBook{Sections: []api.ChainSection{section(to(40, 42), to(1, 2)), section(to(38, 39), to(0, 1))}, Turns: []int{6}, Rule: 30, Days: 12},
		Feet:  []int{9, 6},
		New:   40,
		Open:  []int{3, 5, 9},
		Stock: 12,
		Make:  1,
	}, changes...)
}

// even is a book of a chain of which each place wears 1 in a day; sections are so thick at first, and have 4 feet. An old section is just 15 thick, as the rule is, after as many days as it is above 15; a new one after 3 days. Of feet there are enough.
func even(days int, thick ...int) api.ForgeBook {
	b := api.ForgeBook{Chain: api.ChainBook{Rule: 15, Days: days}, New: 18, Stock: 200}
	for _, n := range thick {
		b.Chain.Sections = append(b.Chain.Sections, section(just(n), just(1)))
		b.Feet = append(b.Feet, 4)
	}
	return b
}

// great is as great as a book can be.
func great(changes ...change) api.ForgeBook {
	s := section(to(197, 200), to(1, 3))
	return with(api.ForgeBook{
		Chain: api.ChainBook{Sections: slices.Repeat([]api.ChainSection{s}, 4), Turns: []int{1, 2, 29, 30}, Surveys: slices.Repeat([]api.ChainSurvey{survey(3, 0, 200, 5)}, 8), Rule: 150, Days: 30},
		Feet:  []int{30, 30, 30, 30},
		New:   200,
		Open:  []int{12, 13, 14, 15},
		Stock: 200,
		Make:  9,
	}, changes...)
}

func sections(l ...api.ChainSection) change { return func(b *api.ForgeBook) { b.Chain.Sections = l } }

func turns(days ...int) change { return func(b *api.ForgeBook) { b.Chain.Turns = days } }

func surveys(l ...api.ChainSurvey) change { return func(b *api.ForgeBook) { b.Chain.Surveys = l } }

func rule(n int) change { return func(b *api.ForgeBook) { b.Chain.Rule = n } }

func days(n int) change { return func(b *api.ForgeBook) { b.Chain.Days = n } }

func feet(l ...int) change { return func(b *api.ForgeBook) { b.Feet = l } }

func fresh(n int) change { return func(b *api.ForgeBook) { b.New = n } }

func open(days ...int) change { return func(b *api.ForgeBook) { b.Open = days } }

// stock is so many feet, and so many more each day.
func stock(feet, each int) change { return func(b *api.ForgeBook) { b.Stock, b.Make = feet, each } }

func poor() change { return stock(11, 1) }

func surveyed() change { return surveys(survey(0, 6, 34, 1)) }

func torn() change { return surveys(survey(0, 6, 34, 1), survey(0, 6, 40, 1)) }

// truth is how thick each section is at first, and what each place wears.
type truth struct{ first, wear []int }

// lies returns for each day in which place each section lies.
func lies(c api.ChainBook) [][]int {
	var in []int // the section in each place
	for s := range c.Sections {
		in = append(in, s)
	}
	var all [][]int
	for day := range c.Days + 1 {
		if slices.Contains(c.Turns, day) {
			slices.Reverse(in)
		}
		at := make([]int, len(in))
		for place, s := range in {
			at[s] = place
		}
		all = append(all, at)
	}
	return all
}

// wears returns how thick each section is on each day, in a truth, if some are changed.
func (w truth) wears(b api.ForgeBook, plan []api.ForgeWork) [][]int {
	at := lies(b.Chain)
	var thick [][]int
	for s, n := range w.first {
		var l []int
		for day := range b.Chain.Days + 1 {
			if day > 0 {
				n -= w.wear[at[day-1][s]]
			}
			if slices.Contains(plan, on(day, s)) {
				n = b.New
			}
			l = append(l, n)
		}
		thick = append(thick, l)
	}
	return thick
}

func (w truth) isRight(b api.ForgeBook, s api.ChainSurvey) bool {
	off := w.wears(b, nil)[s.Section][s.Day] - s.Read
	return -s.Error <= off && off <= s.Error
}

// choices returns all lists of numbers, one of each span.
func choices(spans []api.Span) [][]int {
	all := [][]int{nil}
	for _, s := range spans {
		var longer [][]int
		for _, l := range all {
			for n := s.Low; n <= s.High; n++ {
				longer = append(longer, append(slices.Clone(l), n))
			}
		}
		all = longer
	}
	return all
}

// truths returns all truths of a book's chain.
func truths(b api.ForgeBook) []truth {
	var thick, wear []api.Span
	for _, s := range b.Chain.Sections {
		thick, wear = append(thick, s.Thick), append(wear, s.Wear)
	}
	var all []truth
	for _, first := range choices(thick) {
		for _, wears := range choices(wear) {
			w := truth{first, wears}
			if !slices.ContainsFunc(b.Chain.Surveys, func(s api.ChainSurvey) bool { return !w.isRight(b, s) }) {
				all = append(all, w)
			}
		}
	}
	return all
}

// plans returns all plans.
func plans(b api.ForgeBook) [][]api.ForgeWork {
	all := [][]api.ForgeWork{nil}
	for _, day := range b.Open {
		for s := range b.Feet {
			for _, plan := range all {
				all = append(all, append(slices.Clone(plan), on(day, s)))
			}
		}
	}
	return all
}

// pick returns a number of a span.
func pick(r *rand.Rand, s api.Span) int { return s.Low + r.IntN(s.High-s.Low+1) }

// between returns a span between two numbers, its ends no more than wide apart.
func between(r *rand.Rand, low, high, wide int) api.Span {
	at := pick(r, to(low, high))
	return to(at, min(high, at+r.IntN(wide+1)))
}

// some returns so many days at most, increasing, from a first one on.
func some(r *rand.Rand, first, last, most int) []int {
	var l []int
	for day := first; day <= last; day++ {
		if len(l) < most && r.IntN(last-first+1) < most {
			l = append(l, day)
		}
	}
	return l
}

// anyBook returns a book of a chain that is not long, with surveys that are right in a truth. In many of them something must be changed, and can be.
func anyBook(r *rand.Rand) (api.ForgeBook, truth) {
	b := api.ForgeBook{Chain: api.ChainBook{Days: 2 + r.IntN(10)}}
	c := &b.Chain
	n := 1 + r.IntN(3)
	worn := 1 + r.IntN(api.ChainWear)
	floor := worn * c.Days
	for range n {
		c.Sections = append(c.Sections, section(between(r, floor, floor+5, 3-n/2), between(r, max(0, worn-2), worn, 3-n/2)))
		b.Feet = append(b.Feet, 1+r.IntN([]int{9, 3}[r.IntN(2)]))
	}
	c.Turns = some(r, 1, c.Days, r.IntN(api.ChainTurns+1))
	c.Rule = pick(r, to(floor/3, floor+3))
	b.New = c.Rule + r.IntN(floor+1)
	b.Open = some(r, 0, c.Days, []int{0, 4, 4, 3}[n])
	b.Stock, b.Make = r.IntN(40), r.IntN(4)
	if r.IntN(3) == 0 {
		b.Stock = r.IntN(10)
	}
	w := anyTruth(r, b)
	for range r.IntN(4) {
		c.Surveys = append(c.Surveys, rightly(r, b, w))
	}
	return b, w
}

func anyTruth(r *rand.Rand, b api.ForgeBook) truth {
	var w truth
	for _, s := range b.Chain.Sections {
		w.first, w.wear = append(w.first, pick(r, s.Thick)), append(w.wear, pick(r, s.Wear))
	}
	return w
}

// rightly returns a survey that is right in a truth.
func rightly(r *rand.Rand, b api.ForgeBook, w truth) api.ChainSurvey {
	at, day, by := r.IntN(len(b.Feet)), r.IntN(b.Chain.Days+1), r.IntN(3)
	read := w.wears(b, nil)[at][day] + pick(r, to(-by, by))
	return survey(at, day, max(0, read), by)
}

// wildBook returns a book with surveys that need not be right together.
func wildBook(r *rand.Rand) api.ForgeBook {
	b, _ := anyBook(r)
	if r.IntN(2) == 0 {
		b.Chain.Surveys = append(b.Chain.Surveys, rightly(r, b, anyTruth(r, b)))
	}
	return b
}

// anyPlan returns a plan of no more than a few works, or of many.
func anyPlan(r *rand.Rand, b api.ForgeBook) []api.ForgeWork {
	var plan []api.ForgeWork
	often := 1 + r.IntN(4)
	for _, day := range b.Open {
		for s := range b.Feet {
			if r.IntN(often) == 0 {
				plan = append(plan, on(day, s))
			}
		}
	}
	return plan
}

func rolls(seed uint64) *rand.Rand { return rand.New(rand.NewPCG(seed, 7)) }
