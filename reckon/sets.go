package reckon

import "math/bits"

// Has reports whether a number, not below 0, is in a set.
func Has(set, n int) bool { return set>>n&1 == 1 }

// Full returns the set of all numbers below n.
func Full(n int) int { return 1<<n - 1 }

// Set returns the set of several numbers, none of them below 0.
func Set(numbers ...int) int {
	set := 0
	for _, n := range numbers {
		set |= 1 << n
	}
	return set
}

// Members returns all numbers of a set, increasing.
func Members(set int) []int {
	var all []int
	for n := range bits.Len(uint(set)) {
		if Has(set, n) {
			all = append(all, n)
		}
	}
	return all[:len(all):len(all)]
}
