package integer

import (
	"math/bits"

	"sherd/api"
)

// Root returns the greatest integer whose square is at most x, and whether its square is x; 0 and false, if x is negative.
func Root(x api.Int) (api.Int, bool) {
	if x.Neg {
		return api.Int{}, false
	}
	r := made(false, root(x.D))
	return r, Compare(Mul(r, r), x) == 0
}

// root returns the square root of x, rounded down; x has no zeros at its end.
func root(x []int) []int {
	if len(x) == 0 {
		return nil
	}
	// Newton's method comes down from any greater number, and does not go below the root.
	r := above(x)
	for {
		q, _ := divided(x, r)
		next, _ := shortDivided(sum(r, q), 2)
		next = trimmed(next)
		if compare(next, r) >= 0 {
			return r
		}
		r = next
	}
}

// above returns a number that is greater than the square root of x, but not by much.
func above(x []int) []int {
	if len(x) < 3 {
		return digitsOf(1 << ((bits.Len64(number(x)) + 1) / 2))
	}
	// The root of about half of the digits, rounded up, makes about half of the digits of the root.
	low := max(1, len(x)/4)
	high := trimmed(sum(root(x[2*low:]), []int{1}))
	return append(make([]int, low), high...)
}
