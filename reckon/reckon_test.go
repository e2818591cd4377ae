package reckon_test

import (
	"math"
	"slices"
	"testing"

	"prow/api"
	"prow/reckon"
)

func to(low, high int) api.Span { return api.Span{Low: low, High: high} }

func TestHold(t *testing.T) {
	good := []reckon.Bound{{Number: 1, Low: 1, High: 3}, {Number: 3, Low: 1, High: 3}, {Number: 0, Low: 0, High: 0}}
	if !reckon.Hold(nil) || !reckon.Hold(good) {
		t.Error("bounds that hold do not")
	}
	for _, n := range []int{math.MinInt, 0, 4, math.MaxInt} {
		if reckon.Hold(append(good[:3:3], reckon.Bound{Number: n, Low: 1, High: 3})) {
			t.Errorf("%d is from 1 to 3", n)
		}
	}
}

func TestMeetAndJoin(t *testing.T) {
	for i, x := range []struct{ a, b, meet, join api.Span }{
		{to(1, 5), to(3, 8), to(3, 5), to(1, 8)}, {to(1, 5), to(2, 3), to(2, 3), to(1, 5)}, {to(1, 2), to(2, 2), to(2, 2), to(1, 2)},
		{to(1, 2), to(4, 5), reckon.Nothing(), to(1, 5)}, {to(-9, -7), reckon.Nothing(), reckon.Nothing(), to(-9, -7)}, {reckon.Nothing(), reckon.Nothing(), reckon.Nothing(), reckon.Nothing()},
	} {
		for _, y := range []struct{ a, b api.Span }{{x.a, x.b}, {x.b, x.a}} {
			meet, join := reckon.Meet(y.a, y.b), reckon.Join(y.a, y.b)
			if meet != x.meet && !(reckon.IsEmpty(meet) && reckon.IsEmpty(x.meet)) || join != x.join {
				t.Errorf("%d: %v, %v", i, meet, join)
			}
		}
	}
}

func TestIsKnown(t *testing.T) {
	for i, x := range []struct {
		s    api.Span
		want bool
	}{
		{to(0, 0), true}, {to(0, 4), true}, {to(6, 10), true}, {to(10, 10), true}, {reckon.Just(7), true},
		{to(0, 5), false}, {to(-1, 0), false}, {to(10, 11), false}, {to(3, 2), false}, {reckon.Nothing(), false},
		{to(math.MinInt, math.MaxInt), false}, {to(math.MaxInt, math.MinInt), false},
	} {
		if is := reckon.IsKnown(x.s, to(0, 10), 4); is != x.want {
			t.Errorf("%d: %v", i, is)
		}
	}
}

func TestNumbers(t *testing.T) {
	for i, x := range []struct {
		s    api.Span
		want []int
	}{{to(-1, 2), []int{-1, 0, 1, 2}}, {reckon.Just(5), []int{5}}, {reckon.Nothing(), nil}} {
		if l := slices.Collect(reckon.Numbers(x.s)); !slices.Equal(l, x.want) {
			t.Errorf("%d: %v", i, l)
		}
	}
	for n := range reckon.Numbers(to(3, 9)) {
		if n != 3 {
			t.Errorf("%d behind the end", n)
		}
		break
	}
}

func TestEnds(t *testing.T) {
	for i, s := range []api.Span{to(-1, 2), to(3, 9), reckon.Just(5)} {
		if low, high := reckon.Low().Of(s), reckon.High().Of(s); to(low, high) != s {
			t.Errorf("%d: %d, %d", i, low, high)
		}
	}
}

func TestLeastAndGreatest(t *testing.T) {
	if reckon.Least(3) != 3 || reckon.Least(3, 1, 2) != 1 || reckon.Greatest(-3) != -3 || reckon.Greatest("b", "c", "a") != "c" {
		t.Error("the least or the greatest is another one")
	}
}

func TestSum(t *testing.T) {
	type feet int
	if reckon.Sum[int]() != 0 || reckon.Sum(-3) != -3 || reckon.Sum(3, 1, -2, 5) != 7 || reckon.Sum([]feet{1, 2, 3}...) != 6 {
		t.Error("the sum is another one")
	}
}

func TestSets(t *testing.T) {
	for set, members := range [][]int{{}, {0}, {1}, {0, 1}, {2}, {0, 2}, {1, 2}, {0, 1, 2}} {
		for n := range 70 {
			if has := reckon.Has(set, n); has != slices.Contains(members, n) {
				t.Errorf("Has %d, %d: %v", set, n, has)
			}
		}
		if l := reckon.Members(set); !slices.Equal(l, members) || cap(l) != len(l) {
			t.Errorf("Members %d: %v", set, l)
		}
		slices.Reverse(members)
		if n := reckon.Set(append(members, members...)...); n != set {
			t.Errorf("Set %v: %d", members, n)
		}
	}
	for n, want := range []int{0, 1, 3, 7, 15} {
		if set := reckon.Full(n); set != want {
			t.Errorf("Full %d: %d", n, set)
		}
	}
}

func TestFewest(t *testing.T) {
	for i, x := range []struct {
		n, enough int // how many there are, and what those of the list must be together
		want      []int
		found     bool
	}{
		{4, 0, nil, true}, {4, 3, []int{3}, true}, {4, 4, []int{1, 3}, true}, {4, 5, []int{2, 3}, true}, {4, 6, []int{1, 2, 3}, true}, {4, 7, nil, false}, {0, 1, nil, false}, {0, 0, nil, true},
	} {
		list, found := reckon.Fewest(x.n, func(list []int) bool {
			sum := 0
			for _, n := range list {
				sum += n
			}
			return sum == x.enough
		})
		if !slices.Equal(list, x.want) || found != x.found {
			t.Errorf("%d: %v, %v", i, list, found)
		}
	}
}

func TestLists(t *testing.T) {
	for i, x := range []struct {
		n    int
		want [][]int
	}{{0, [][]int{{}}}, {1, [][]int{{}, {0}}}, {3, [][]int{{}, {0}, {1}, {2}, {0, 1}, {0, 2}, {1, 2}, {0, 1, 2}}}} {
		var all [][]int
		for l := range reckon.Lists(x.n) {
			all = append(all, l) // each is new memory
		}
		if !slices.EqualFunc(all, x.want, slices.Equal[[]int]) {
			t.Errorf("%d: %v", i, all)
		}
	}
	for l := range reckon.Lists(3) {
		if len(l) > 1 {
			t.Errorf("%v behind the end", l)
		}
		if slices.Equal(l, []int{1}) {
			break
		}
	}
}

func TestChoice(t *testing.T) {
	longer := reckon.Choice[string]{Better: func(a, b string) bool { return len(a) > len(b) }}
	for i, x := range []struct {
		all   []string
		want  string
		found bool
	}{
		{nil, "", false}, {[]string{"no"}, "", false}, {[]string{"no", "a"}, "a", true}, {[]string{"a", "no", "bcd", "no way"}, "bcd", true}, {[]string{"a", "bc", "de", "f"}, "bc", true}, {[]string{""}, "", true},
	} {
		best, found := longer.Of(slices.Values(x.all), func(s string) bool { return s == "" || s[0] != 'n' })
		if best != x.want || found != x.found {
			t.Errorf("%d: %q, %v", i, best, found)
		}
	}
}

func TestIncrease(t *testing.T) {
	for i, x := range []struct {
		list []int
		want bool
	}{
		{nil, true}, {[]int{1}, true}, {[]int{4}, true}, {[]int{1, 2, 3, 4}, true}, {[]int{1, 4}, true},
		{[]int{0}, false}, {[]int{5}, false}, {[]int{1, 5}, false}, {[]int{2, 2}, false}, {[]int{3, 2}, false}, {[]int{1, 3, 2}, false}, {[]int{math.MinInt, 2}, false}, {[]int{1, math.MaxInt}, false},
	} {
		if is := reckon.Increase(x.list, to(1, 4)); is != x.want {
			t.Errorf("%d: %v", i, is)
		}
	}
	if reckon.Increase([]int{0}, reckon.Nothing()) || !reckon.Increase(nil, reckon.Nothing()) {
		t.Error("of no numbers")
	}
}

func TestWith(t *testing.T) {
	all := []int{2, 5, 9, 77}
	for i, x := range []struct {
		list []int
		n    int
		want []int
	}{{nil, 3, []int{3}}, {all[:3], 1, []int{1, 2, 5, 9}}, {all[:3], 7, []int{2, 5, 7, 9}}, {all[:3], 12, []int{2, 5, 9, 12}}, {all[:1], 0, []int{0, 2}}} {
		l := reckon.With(x.list, x.n)
		if !slices.Equal(l, x.want) || cap(l) != len(l) {
			t.Errorf("%d: %v", i, l)
		}
		l[0] = -1
		if !slices.Equal(all, []int{2, 5, 9, 77}) {
			t.Errorf("%d: the argument was changed: %v", i, all)
		}
	}
}

func TestWithout(t *testing.T) {
	all := []string{"a", "b", "c"}
	for i, x := range []struct {
		list []int
		want []string
	}{{nil, all}, {[]int{1}, []string{"a", "c"}}, {[]int{0, 2}, []string{"b"}}, {[]int{0, 1, 2}, nil}} {
		l := reckon.Without(all, x.list)
		if !slices.Equal(l, x.want) || cap(l) != len(l) {
			t.Errorf("%d: %v", i, l)
		}
		if len(l) > 0 {
			l[0] = "z"
		}
		if all[0] != "a" || all[1] != "b" {
			t.Errorf("%d: the argument was changed: %v", i, all)
		}
	}
}

func TestPlace(t *testing.T) {
	for i, x := range []struct {
		sections int
		turns    []int
		want     [][]int // by sections, and days
	}{
		{1, []int{1}, [][]int{{0, 0, 0}}}, {2, nil, [][]int{{0, 0, 0}, {1, 1, 1}}}, {2, []int{1}, [][]int{{0, 1, 1}, {1, 0, 0}}}, {2, []int{1, 2}, [][]int{{0, 1, 0}, {1, 0, 1}}},
		{3, []int{2}, [][]int{{0, 0, 2}, {1, 1, 1}, {2, 2, 0}}}, {4, []int{1, 3}, [][]int{{0, 3, 3, 0}, {1, 2, 2, 1}, {2, 1, 1, 2}, {3, 0, 0, 3}}},
	} {
		b := api.ChainBook{Sections: make([]api.ChainSection, x.sections), Turns: x.turns}
		for section, days := range x.want {
			for day, want := range days {
				if n := reckon.Place(b, section, day); n != want {
					t.Errorf("Place %d of %d on %d: %d", i, section, day, n)
				}
			}
			if n := reckon.Across(b, section); n != x.sections-1-section {
				t.Errorf("Across %d of %d: %d", i, section, n)
			}
		}
	}
}
