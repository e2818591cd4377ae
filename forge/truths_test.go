package forge_test

import (
	"math"
	"reflect"
	"slices"
	"testing"

	"prow/api"
	"prow/forge"
)

// All functions (P7.1 to P7.6) are held here against the definitions, with all truths of the chain, and all plans one by one.

// answer is all that a function returns.
type answer struct {
	value any
	e     api.Errno
}

func is(yes bool, e api.Errno) answer { return answer{yes, e} }

func number(n int, e api.Errno) answer { return answer{n, e} }

func day(n int) answer { return number(n, api.OK) }

func at(day, section int, e api.Errno) answer { return answer{on(day, section), e} }

// list makes no difference between a nil list and an empty one.
func list(l []api.ForgeWork, e api.Errno) answer { return answer{append([]api.ForgeWork{}, l...), e} }

func none() answer { return number(0, api.ErrNone) }

func same(t *testing.T, b api.ForgeBook, what string, got, want answer) {
	t.Helper()
	if !reflect.DeepEqual(got, want) {
		t.Fatalf("%s of %v: %v, not %v", what, b, got, want)
	}
}

// seen is a book, and all that is known of its chain.
type seen struct {
	api.ForgeBook
	low  [][]int // how thick each section is at least, on each day
	wear []int   // how much each place wears at most
	lies [][]int
}

func see(b api.ForgeBook, all []truth) seen {
	s := seen{ForgeBook: b, low: all[0].wears(b, nil), wear: slices.Clone(all[0].wear), lies: lies(b.Chain)}
	for _, w := range all {
		for section, l := range w.wears(b, nil) {
			for day, n := range l {
				s.low[section][day] = min(s.low[section][day], n)
			}
			s.wear[section] = max(s.wear[section], w.wear[section])
		}
	}
	return s
}

// least returns how thick each section is at least, on each day.
func (s seen) least(plan []api.ForgeWork) [][]int {
	var all [][]int
	for section, low := range s.low {
		var l []int
		changed := false
		for day, n := range low {
			switch {
			case slices.Contains(plan, on(day, section)):
				changed = true
				n = s.New
			case changed:
				n = l[day-1] - s.wear[s.lies[day-1][section]]
			}
			l = append(l, n)
		}
		all = append(all, l)
	}
	return all
}

// first returns the first day on which a section is too thin, and the first such section.
func (s seen) first(plan []api.ForgeWork) answer {
	least := s.least(plan)
	for day := range s.Chain.Days + 1 {
		for section := range s.Feet {
			if least[section][day] < s.Chain.Rule {
				return at(day, section, api.OK)
			}
		}
	}
	return at(0, 0, api.ErrNone)
}

func (s seen) isSafe(plan []api.ForgeWork) bool { return s.first(plan).e == api.ErrNone }

// short takes feet work by work.
func short(b api.ForgeBook, plan []api.ForgeWork) answer {
	left, upTo := b.Stock, 0
	for n, w := range plan {
		left += b.Make * (w.Day - upTo)
		upTo = w.Day
		left -= b.Feet[w.Section]
		if left < 0 {
			return number(n, api.OK)
		}
	}
	return none()
}

func feetOf(b api.ForgeBook, plan []api.ForgeWork) int {
	sum := 0
	for _, w := range plan {
		sum += b.Feet[w.Section]
	}
	return sum
}

// before compares plans work by work.
func before(one, other []api.ForgeWork) bool {
	for n := range min(len(one), len(other)) {
		if one[n].Day != other[n].Day {
			return one[n].Day < other[n].Day
		}
		if one[n].Section != other[n].Section {
			return one[n].Section < other[n].Section
		}
	}
	return len(one) < len(other)
}

// good returns all good plans.
func (s seen) good() [][]api.ForgeWork {
	var l [][]api.ForgeWork
	for _, plan := range plans(s.ForgeBook) {
		if short(s.ForgeBook, plan) == none() && s.isSafe(plan) {
			l = append(l, plan)
		}
	}
	return l
}

func (s seen) plan() answer {
	good := s.good()
	if len(good) == 0 {
		return list(nil, api.ErrNone)
	}
	best := good[0]
	for _, plan := range good {
		less := feetOf(s.ForgeBook, plan) - feetOf(s.ForgeBook, best)
		if less < 0 || less == 0 && before(plan, best) {
			best = plan
		}
	}
	return list(best, api.OK)
}

// stock returns the least stock with which one of the safe plans does not fall short.
func (s seen) stock() answer {
	var safe [][]api.ForgeWork
	for _, plan := range plans(s.ForgeBook) {
		if s.isSafe(plan) {
			safe = append(safe, plan)
		}
	}
	for n := range api.ForgeStock + 1 {
		b := with(s.ForgeBook, func(b *api.ForgeBook) { b.Stock = n })
		if slices.ContainsFunc(safe, func(plan []api.ForgeWork) bool { return short(b, plan) == none() }) {
			return number(n, api.OK)
		}
	}
	return none()
}

// fewest returns how many feet the best plan takes; more than any, if there is none.
func (s seen) fewest() int {
	plan := s.plan()
	if plan.e != api.OK {
		return math.MaxInt
	}
	return feetOf(s.ForgeBook, plan.value.([]api.ForgeWork))
}

func (s seen) rest() answer {
	told, fewest := none(), s.fewest()
	for n := range s.Chain.Days + 1 {
		more := s
		more.Open = append(slices.Clone(s.Open), n)
		slices.Sort(more.Open)
		if feet := more.fewest(); !slices.Contains(s.Open, n) && feet < fewest {
			told, fewest = day(n), feet
		}
	}
	return told
}

// sameByPlan holds what is told of a plan against the definitions.
func sameByPlan(t *testing.T, s seen, plan []api.ForgeWork) {
	t.Helper()
	b := s.ForgeBook
	for section, l := range s.least(plan) {
		for on, n := range l {
			same(t, b, "Least", number(forge.Least(b, plan, section, on)), day(n))
		}
	}
	first := s.first(plan)
	same(t, b, "First", at(forge.First(b, plan)), first)
	same(t, b, "Safe", is(forge.Safe(b, plan)), is(first.e == api.ErrNone, api.OK))
}

func TestTruthByTruth(t *testing.T) {
	r := rolls(1)
	told := map[bool]int{} // whether there is a plan with some works
	falls, rests := 0, 0
	for range 500 {
		b := wildBook(r)
		plan := anyPlan(r, b)
		same(t, b, "Feet", number(forge.Feet(b, plan)), day(feetOf(b, plan)))
		same(t, b, "Short", number(forge.Short(b, plan)), short(b, plan))
		all := truths(b)
		if len(all) == 0 {
			falls++
			same(t, b, "Plan", list(forge.Plan(b)), list(nil, api.ErrForgeFalse))
			continue
		}
		s := see(b, all)
		sameByPlan(t, s, plan)
		best, rest := s.plan(), s.rest()
		same(t, b, "Plan", list(forge.Plan(b)), best)
		same(t, b, "Stock", number(forge.Stock(b)), s.stock())
		same(t, b, "Rest", number(forge.Rest(b)), rest)
		told[len(best.value.([]api.ForgeWork)) > 0]++
		if rest.e == api.OK {
			rests++
		}
	}
	if told[true] < 100 || falls < 25 || rests < 50 {
		t.Errorf("of 500 books %d tell works, %d are false, %d want a rest", told[true], falls, rests)
	}
}
