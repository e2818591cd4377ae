package reckon

// Has reports whether a number, not below 0, is in a set.
func Has(set, n int) bool { return set>>n&1 == 1 }

// Full returns the set of all numbers below n.
func Full(n int) int { return 1<<n - 1 }
