package chain_test

import (
	"math/rand/v2"
	"slices"

	"prow/api"
)

func to(low, high int) api.Span { return api.Span{Low: low, High: high} }

func just(n int) api.Span { return to(n, n) }

func section(thick, wear api.Span) api.ChainSection {
	return api.ChainSection{Thick: thick, Wear: wear}
}

func survey(at, day, read, by int) api.ChainSurvey {
	return api.ChainSurvey{Section: at, Day: day, Read: read, Error: by}
}

type change func(b *api.ChainBook)

func with(b api.ChainBook, changes ...change) api.ChainBook {
	for _, c := range changes {
		c(&b)
	}
	return b
}

// example is the book of the document's chapter, changed.
func example(changes ...change) api.ChainBook {
	return with(api.ChainBook{
		Sections: []api.ChainSection{section(to(40, 42), to(1, 2)), section(to(38, 39), to(0, 1))},
		Turns:    []int{6},
		Rule:     30,
		Days:     12,
	}, changes...)
}

func sections(l ...api.ChainSection) change { return func(b *api.ChainBook) { b.Sections = l } }

func turns(days ...int) change { return func(b *api.ChainBook) { b.Turns = days } }

func surveys(l ...api.ChainSurvey) change { return func(b *api.ChainBook) { b.Surveys = l } }

func rule(n int) change { return func(b *api.ChainBook) { b.Rule = n } }

func days(n int) change { return func(b *api.ChainBook) { b.Days = n } }

func surveyed() change { return surveys(survey(0, 6, 34, 1)) }

func torn() change { return surveys(survey(0, 6, 34, 1), survey(0, 6, 40, 1)) }

func straight() change { return turns() }

func clone(b api.ChainBook) api.ChainBook {
	b.Sections = slices.Clone(b.Sections)
	b.Turns = slices.Clone(b.Turns)
	b.Surveys = slices.Clone(b.Surveys)
	return b
}

// whole is a truth, reckoned day by day: what each place wears, and how thick each section is on each day.
type whole struct {
	wear  []int
	thick [][]int
}

// reckon wears a chain day by day, and turns it, as the chapter's definitions tell.
func reckon(first, wear, turns []int, days int) whole {
	lies := make([]int, len(first)) // the section in each place
	thick := make([][]int, len(first))
	for s := range first {
		lies[s] = s
		thick[s] = []int{first[s]}
	}
	for day := 1; day <= days; day++ {
		for place, s := range lies {
			thick[s] = append(thick[s], thick[s][day-1]-wear[place])
		}
		if slices.Contains(turns, day) {
			slices.Reverse(lies)
		}
	}
	return whole{wear, thick}
}

// choices returns all lists of numbers, one of each span.
func choices(spans []api.Span) [][]int {
	all := [][]int{nil}
	for _, s := range spans {
		var longer [][]int
		for _, l := range all {
			for n := s.Low; n <= s.High; n++ {
				longer = append(longer, append(slices.Clone(l), n))
			}
		}
		all = longer
	}
	return all
}

// possible returns all of a book's truths, whether its surveys are right or not.
func possible(b api.ChainBook) []whole {
	var thick, wear []api.Span
	for _, s := range b.Sections {
		thick, wear = append(thick, s.Thick), append(wear, s.Wear)
	}
	var all []whole
	for _, w := range choices(wear) {
		for _, f := range choices(thick) {
			all = append(all, reckon(f, w, b.Turns, b.Days))
		}
	}
	return all
}

func isRight(w whole, s api.ChainSurvey) bool {
	off := w.thick[s.Section][s.Day] - s.Read
	return -s.Error <= off && off <= s.Error
}

func truths(b api.ChainBook) []whole {
	var l []whole
	for _, w := range possible(b) {
		if !slices.ContainsFunc(b.Surveys, func(s api.ChainSurvey) bool { return !isRight(w, s) }) {
			l = append(l, w)
		}
	}
	return l
}

// pick returns a number of a span.
func pick(r *rand.Rand, s api.Span) int { return s.Low + r.IntN(s.High-s.Low+1) }

// between returns a span between two numbers, its ends no more than wide apart.
func between(r *rand.Rand, low, high, wide int) api.Span {
	at := pick(r, to(low, high))
	return to(at, min(high, at+r.IntN(wide+1)))
}

// anyChain returns a book without surveys, with not too many truths, and one of them.
func anyChain(r *rand.Rand) (api.ChainBook, whole) {
	b := api.ChainBook{Days: 1 + r.IntN(10)}
	if r.IntN(8) == 0 {
		b.Days = api.ChainDays
	}
	n := 1 + r.IntN(api.ChainSections)
	wide := []int{api.ChainWide, api.ChainWide, 2, 1}[n-1]
	floor := api.ChainWear * b.Days
	for range n {
		b.Sections = append(b.Sections, section(between(r, floor, floor+8, wide), between(r, 0, api.ChainWear, min(wide, api.ChainLoose))))
	}
	for day := 1; day <= b.Days; day++ {
		if len(b.Turns) < api.ChainTurns && r.IntN(b.Days+2) < 3 {
			b.Turns = append(b.Turns, day)
		}
	}
	b.Rule = pick(r, to(floor-b.Days, floor+6))
	return b, anyTruth(r, b)
}

func anyTruth(r *rand.Rand, b api.ChainBook) whole {
	var first, wear []int
	for _, s := range b.Sections {
		first, wear = append(first, pick(r, s.Thick)), append(wear, pick(r, s.Wear))
	}
	return reckon(first, wear, b.Turns, b.Days)
}

// rightly returns a survey that is right in a truth.
func rightly(r *rand.Rand, b api.ChainBook, w whole) api.ChainSurvey {
	at, day, by := r.IntN(len(b.Sections)), r.IntN(b.Days+1), r.IntN(3)
	read := w.thick[at][day] + pick(r, to(-by, by))
	return survey(at, day, max(0, read), by)
}

// anyBook returns a book with surveys that are right in a truth.
func anyBook(r *rand.Rand) (api.ChainBook, whole) {
	b, w := anyChain(r)
	for range r.IntN(5) {
		b.Surveys = append(b.Surveys, rightly(r, b, w))
	}
	return b, w
}

// wildBook returns a book with surveys of several truths, that need not be right together.
func wildBook(r *rand.Rand) api.ChainBook {
	b, _ := anyChain(r)
	w := anyTruth(r, b)
	for range r.IntN(6) {
		if r.IntN(3) == 0 {
			w = anyTruth(r, b)
		}
		b.Surveys = append(b.Surveys, rightly(r, b, w))
	}
	return b
}

func rolls(seed uint64) *rand.Rand { return rand.New(rand.NewPCG(seed, 1)) }
