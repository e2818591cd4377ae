package chain_test

import (
	"reflect"
	"slices"
	"testing"

	"prow/api"
	"prow/chain"
)

// All functions (P1.1 to P1.7) are held here against the definitions, with all truths one by one.

func spanOf(all []whole, n func(w whole) int) answer {
	s := just(n(all[0]))
	for _, w := range all {
		s = to(min(s.Low, n(w)), max(s.High, n(w)))
	}
	return be(s, api.OK)
}

// firstOn returns the first day on which something is so.
func firstOn(days int, is func(day int) bool) answer {
	for on := range days + 1 {
		if is(on) {
			return be(on, api.OK)
		}
	}
	return be(0, api.ErrNone)
}

func someThin(b api.ChainBook, all []whole, at, on int) bool {
	return slices.ContainsFunc(all, func(w whole) bool { return w.thick[at][on] < b.Rule })
}

func eachThin(b api.ChainBook, all []whole, at, on int) bool {
	return !slices.ContainsFunc(all, func(w whole) bool { return w.thick[at][on] >= b.Rule })
}

func cutOf(b api.ChainBook, all []whole, on int) answer {
	l := []int{}
	for at := range b.Sections {
		if someThin(b, all, at, on) {
			l = append(l, at)
		}
	}
	return be(l, api.OK)
}

// soonestOf returns the first day on which any section is too thin in some truth.
func soonestOf(b api.ChainBook, all []whole) int {
	first := firstOn(b.Days, func(on int) bool {
		return slices.ContainsFunc(all, func(w whole) bool {
			return slices.ContainsFunc(w.thick, func(days []int) bool { return days[on] < b.Rule })
		})
	})
	if first.e != api.OK {
		return b.Days + 1
	}
	return first.value.(int)
}

// turnOf reckons all truths anew for each turn.
func turnOf(b api.ChainBook, all []whole) answer {
	best, latest := answer{0, api.ErrNone}, soonestOf(b, all)
	for on := 1; on <= b.Days; on++ {
		if slices.Contains(b.Turns, on) || slices.ContainsFunc(b.Surveys, func(s api.ChainSurvey) bool { return s.Day > on }) {
			continue
		}
		var turned []whole
		for _, w := range all {
			var first []int
			for at := range b.Sections {
				first = append(first, w.thick[at][0])
			}
			turned = append(turned, reckon(first, w.wear, append(slices.Clone(b.Turns), on), b.Days))
		}
		if n := soonestOf(b, turned); n > latest {
			best, latest = be(on, api.OK), n
		}
	}
	return best
}

// wrongOf returns the fewest surveys that are not right in any truth.
func wrongOf(b api.ChainBook) answer {
	var best []int
	for i, w := range possible(b) {
		l := []int{}
		for n, s := range b.Surveys {
			if !isRight(w, s) {
				l = append(l, n)
			}
		}
		if i == 0 || len(l) < len(best) || len(l) == len(best) && slices.Compare(l, best) < 0 {
			best = l
		}
	}
	return be(best, api.OK)
}

func same(t *testing.T, b api.ChainBook, what string, got, want answer) {
	t.Helper()
	if !reflect.DeepEqual(got, want) {
		t.Fatalf("%s of %v: %v, not %v", what, b, got, want)
	}
}

func sameOfSection(t *testing.T, b api.ChainBook, all []whole, at int) {
	wear, e := chain.Wear(b, at)
	same(t, b, "Wear", be(wear, e), spanOf(all, func(w whole) int { return w.wear[at] }))
	same(t, b, "Thin", day(chain.Thin(b, at)), firstOn(b.Days, func(on int) bool { return someThin(b, all, at, on) }))
	same(t, b, "Gone", day(chain.Gone(b, at)), firstOn(b.Days, func(on int) bool { return eachThin(b, all, at, on) }))
	for on := range b.Days + 1 {
		thick, e := chain.Thick(b, at, on)
		same(t, b, "Thick", be(thick, e), spanOf(all, func(w whole) int { return w.thick[at][on] }))
		for by := range 3 {
			s := survey(at, on, max(0, thick.Low+by*3-4), by)
			fits, e := chain.Fits(b, s)
			same(t, b, "Fits", be(fits, e), be(slices.ContainsFunc(all, func(w whole) bool { return isRight(w, s) }), api.OK))
		}
	}
}

func TestTruthByTruth(t *testing.T) {
	r := rolls(1)
	for range 400 {
		b := wildBook(r)
		all := truths(b)
		right, e := chain.Right(b)
		same(t, b, "Right", be(right, e), be(len(all) > 0, api.OK))
		same(t, b, "Wrong", list(chain.Wrong(b)), wrongOf(b))
		if len(all) == 0 {
			same(t, b, "Turn", day(chain.Turn(b)), answer{0, api.ErrChainFalse})
			continue
		}
		same(t, b, "Turn", day(chain.Turn(b)), turnOf(b, all))
		for at := range b.Sections {
			sameOfSection(t, b, all, at)
		}
		for on := range b.Days + 1 {
			same(t, b, "Cut", list(chain.Cut(b, on)), cutOf(b, all, on))
		}
	}
}
