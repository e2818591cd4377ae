package landing_test

import (
	"reflect"
	"slices"
	"testing"

	"prow/api"
	"prow/landing"
)

// All functions (P2.1 to P2.7) are held here against the definitions, with all truths one by one.

// answer is all that a function returns.
type answer struct {
	value any
	e     api.Errno
}

func be(value any, e api.Errno) answer { return answer{value, e} }

func number(n int, e api.Errno) answer { return be(n, e) }

func span(s api.Span, e api.Errno) answer { return be(s, e) }

// list makes no difference between a nil list and an empty one.
func list(l []int, e api.Errno) answer { return be(append([]int{}, l...), e) }

func spanOf(all []whole, n func(w whole) int) answer {
	s := just(n(all[0]))
	for _, w := range all {
		s = to(min(s.Low, n(w)), max(s.High, n(w)))
	}
	return span(s, api.OK)
}

func landsOf(b api.LandingBook, all []whole, shore, hour, load int) int {
	in := 0
	for _, w := range all {
		if lands(b, w, shore, hour, load) {
			in++
		}
	}
	switch in {
	case len(all):
		return 2
	case 0:
		return 0
	}
	return 1
}

func mostOf(b api.LandingBook, all []whole, shore, hour int) answer {
	most := be(0, api.ErrNone)
	for load := range api.LandingLoad + 1 {
		if landsOf(b, all, shore, hour, load) == 2 {
			most = be(load, api.OK)
		}
	}
	return most
}

func firstOf(b api.LandingBook, all []whole, shore, load int) answer {
	for hour := range b.Tides {
		if landsOf(b, all, shore, hour, load) == 2 {
			return be(hour, api.OK)
		}
	}
	return be(0, api.ErrNone)
}

func bothOf(b api.LandingBook, all []whole, load int) answer {
	l := []int{}
	for hour := range b.Tides {
		if landsOf(b, all, 0, hour, load) == 2 && landsOf(b, all, 1, hour, load) == 2 {
			l = append(l, hour)
		}
	}
	return be(l, api.OK)
}

// wrongOf returns the fewest soundings that are not right in any truth.
func wrongOf(b api.LandingBook) answer {
	var best []int
	for i, w := range possible(b) {
		l := []int{}
		for n, s := range b.Sounds {
			if !isRight(w, s) {
				l = append(l, n)
			}
		}
		if i == 0 || len(l) < len(best) || len(l) == len(best) && slices.Compare(l, best) < 0 {
			best = l
		}
	}
	return be(best, api.OK)
}

func same(t *testing.T, b api.LandingBook, what string, got, want answer) {
	t.Helper()
	if !reflect.DeepEqual(got, want) {
		t.Fatalf("%s of %v: %v, not %v", what, b, got, want)
	}
}

func sameOfShore(t *testing.T, b api.LandingBook, all []whole, shore int, loads []int) {
	same(t, b, "Floor", span(landing.Floor(b, shore)), spanOf(all, func(w whole) int { return w.floors[shore] }))
	for _, load := range loads {
		same(t, b, "First", number(landing.First(b, shore, load)), firstOf(b, all, shore, load))
		for hour := range b.Tides {
			same(t, b, "Lands", number(landing.Lands(b, shore, hour, load)), be(landsOf(b, all, shore, hour, load), api.OK))
		}
	}
}

func TestTruthByTruth(t *testing.T) {
	r := rolls(1)
	for range 500 {
		b := wildBook(r)
		all := truths(b)
		right, e := landing.Right(b)
		same(t, b, "Right", be(right, e), be(len(all) > 0, api.OK))
		same(t, b, "Wrong", list(landing.Wrong(b)), wrongOf(b))
		if len(all) == 0 {
			same(t, b, "Height", span(landing.Height(b, 0)), answer{api.Span{}, api.ErrLandingFalse})
			continue
		}
		loads := []int{0, anyLoad(r, b), anyLoad(r, b)}
		for hour := range b.Tides {
			same(t, b, "Height", span(landing.Height(b, hour)), spanOf(all, func(w whole) int { return w.heights[hour] }))
		}
		for shore := range b.Shores {
			sameOfShore(t, b, all, shore, loads)
		}
		for _, load := range loads {
			same(t, b, "Both", list(landing.Both(b, load)), bothOf(b, all, load))
		}
		shore, hour := r.IntN(2), r.IntN(len(b.Tides))
		if len(all) < 400 {
			same(t, b, "Most", number(landing.Most(b, shore, hour)), mostOf(b, all, shore, hour))
		}
	}
}
