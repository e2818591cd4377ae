package landing

import (
	"iter"
	"slices"

	"prow/api"
	"prow/reckon"
)

// slip is a shore in an hour.
type slip struct{ hour, shore int }

func slipOf(s api.LandingSound) slip { return slip{s.Hour, s.Shore} }

// truth is the floor of each shore.
// Beside it the water of each hour and the draught of the empty deck are independent of each other: each choice of heights that no sounding forbids above these floors, and of a number in Empty, is a truth of the book.
type truth [2]int

// floors is what is known of the floor of each shore.
type floors [2]api.Span

func unknown() floors { return floors{reckon.Nothing(), reckon.Nothing()} }

func (f floors) join(t truth) floors {
	for shore, floor := range t {
		f[shore] = reckon.Join(f[shore], reckon.Just(floor))
	}
	return f
}

// ledger is a valid book in the calculation.
type ledger struct {
	api.LandingBook
	sounded map[slip][]int // all depths that were sounded
	truths  []truth
	known   floors
}

// lay returns the ledger of a valid book, as yet without its truths.
func lay(b api.LandingBook) ledger {
	l := ledger{LandingBook: b, sounded: map[slip][]int{}, known: unknown()}
	for _, s := range b.Sounds {
		l.sounded[slipOf(s)] = depths(b.Sounds, slipOf(s))
	}
	return l
}

func depths(sounds []api.LandingSound, at slip) []int {
	var list []int
	for _, s := range sounds {
		if slipOf(s) == at {
			list = append(list, s.Deep)
		}
	}
	return list
}

// study returns the ledger of a book about which something is asked, or the first error: of the book, of the question (unless it is proper), of the soundings.
func study(b api.LandingBook, proper bool) (ledger, api.Errno) {
	if e := Check(b); e != api.OK {
		return ledger{}, e
	}
	if !proper {
		return ledger{}, api.ErrLandingAsk
	}
	l := lay(b)
	for t := range l.produce() {
		l.truths = append(l.truths, t)
		l.known = l.known.join(t)
	}
	if l.known == unknown() {
		return ledger{}, api.ErrLandingFalse
	}
	return l, api.OK
}

// produce returns all truths.
func (l ledger) produce() iter.Seq[truth] {
	return func(yield func(truth) bool) {
		var t truth
		var dig func(shore int) bool
		dig = func(shore int) bool {
			if shore == len(t) {
				return !l.allows(t) || yield(t)
			}
			for floor := range reckon.Numbers(l.Shores[shore].Floor) {
				t[shore] = floor
				if !dig(shore + 1) {
					return false
				}
			}
			return true
		}
		dig(0)
	}
}

// allows reports whether above these floors soundings leave the water a height in each hour. In hours without soundings they do.
func (l ledger) allows(t truth) bool {
	for _, s := range l.Sounds {
		if reckon.IsEmpty(l.water(t, s.Hour)) {
			return false
		}
	}
	return true
}

// water returns how high the water of an hour can be in a truth.
func (l ledger) water(t truth, hour int) api.Span {
	water := reckon.Nothing()
next:
	for height := range reckon.Numbers(l.Tides[hour]) {
		for shore, floor := range t {
			if slices.ContainsFunc(l.sounded[slip{hour, shore}], depth(height-floor).isNot) {
				continue next
			}
		}
		water = reckon.Join(water, reckon.Just(height))
	}
	return water
}

// depth is how deep the water is at a slip.
type depth int

func (d depth) isNot(sounded int) bool { return int(d) != sounded }

// possible reports whether there is a truth.
func (l ledger) possible() bool {
	for range l.produce() {
		return true
	}
	return false
}
