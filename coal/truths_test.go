package coal_test

import (
	"reflect"
	"slices"
	"testing"

	"prow/api"
	"prow/coal"
)

// All functions (P6.1 to P6.7) are held here against the definitions, with all truths one by one.

// answer is all that a function returns.
type answer struct {
	value any
	e     api.Errno
}

func is(yes bool, e api.Errno) answer { return answer{yes, e} }

func number(n int, e api.Errno) answer { return answer{n, e} }

func span(s api.Span, e api.Errno) answer { return answer{s, e} }

// list makes no difference between a nil list and an empty one.
func list(l []int, e api.Errno) answer { return answer{append([]int{}, l...), e} }

func none() answer { return number(0, api.ErrNone) }

func same(t *testing.T, b api.CoalBook, what string, got, want answer) {
	t.Helper()
	if !reflect.DeepEqual(got, want) {
		t.Fatalf("%s of %v: %v, not %v", what, b, got, want)
	}
}

func spanOf(all []whole, n func(w whole) int) answer {
	s := just(n(all[0]))
	for _, w := range all {
		s = to(min(s.Low, n(w)), max(s.High, n(w)))
	}
	return span(s, api.OK)
}

func windsOf(all []whole, day int) answer {
	set := 0
	for _, w := range all {
		set |= 1 << w.winds[day]
	}
	return number(set, api.OK)
}

func lastsOf(all []whole, day int) answer {
	lasts := 0
	for _, w := range all {
		if w.lasts(day) {
			lasts++
		}
	}
	switch lasts {
	case len(all):
		return number(2, api.OK)
	case 0:
		return number(0, api.OK)
	}
	return number(1, api.OK)
}

func dayOf(b api.CoalBook, all []whole) answer {
	for day := range b.Days {
		if slices.ContainsFunc(all, func(w whole) bool { return w.coal[day] < 0 }) {
			return number(day, api.OK)
		}
	}
	return none()
}

// orderOf adds a hundredweight after the other.
func orderOf(b api.CoalBook, all []whole) answer {
	order := 0
	for slices.ContainsFunc(all, func(w whole) bool { return w.least(len(b.Days)-1)+order < 0 }) {
		order++
	}
	return number(order, api.OK)
}

func lateOf(b api.CoalBook, all []whole) answer {
	late := none()
	for day := b.Collier.Low; day <= b.Collier.High; day++ {
		if !slices.ContainsFunc(all, func(w whole) bool { return w.comes <= day && !w.lasts(len(b.Days)-1) }) {
			late = number(day, api.OK)
		}
	}
	return late
}

// wrongOf returns the fewest measures that are not right in any truth.
func wrongOf(b api.CoalBook) answer {
	var best []int
	for i, w := range possible(b) {
		l := wrongIn(b, w)
		if i == 0 || len(l) < len(best) || len(l) == len(best) && slices.Compare(l, best) < 0 {
			best = l
		}
	}
	return list(best, api.OK)
}

// sameTold holds what is told of a book that can be true against all of its truths.
func sameTold(t *testing.T, b api.CoalBook, all []whole) {
	t.Helper()
	for day := range b.Days {
		same(t, b, "Heap", span(coal.Heap(b, day)), spanOf(all, func(w whole) int { return w.coal[day] }))
		same(t, b, "Wind", number(coal.Wind(b, day)), windsOf(all, day))
		same(t, b, "Lasts", number(coal.Lasts(b, day)), lastsOf(all, day))
	}
	for engine := range b.Eats {
		same(t, b, "Eats", span(coal.Eats(b, engine)), spanOf(all, func(w whole) int { return w.eats[engine] }))
	}
	same(t, b, "Day", number(coal.Day(b)), dayOf(b, all))
	same(t, b, "Order", number(coal.Order(b)), orderOf(b, all))
	same(t, b, "Late", number(coal.Late(b)), lateOf(b, all))
}

func TestTruthByTruth(t *testing.T) {
	r := rolls(1)
	isTrue := 0
	for range 1500 {
		b := small().wildBook(r)
		all := truths(b)
		same(t, b, "Right", is(coal.Right(b)), is(len(all) > 0, api.OK))
		same(t, b, "Wrong", list(coal.Wrong(b)), wrongOf(b))
		if len(all) == 0 {
			same(t, b, "Heap", span(coal.Heap(b, 0)), span(api.Span{}, api.ErrCoalFalse))
			continue
		}
		isTrue++
		sameTold(t, b, all)
	}
	if isTrue < 400 || isTrue > 1200 {
		t.Errorf("%d of 1500 books can be true", isTrue)
	}
}

// The measures of these books are all right, so that they tell much.
func TestTruthByTruthMeasured(t *testing.T) {
	r := rolls(2)
	for range 700 {
		b, _ := small().anyBook(r)
		sameTold(t, b, truths(b))
	}
}

// So are those of these books, that are as great as books can be.
func TestTruthByTruthGreat(t *testing.T) {
	r := rolls(3)
	for range 100 {
		b, _ := full().anyBook(r)
		sameTold(t, b, truths(b))
	}
}
