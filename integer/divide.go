package integer

import "sherd/api"

// divided returns the quotient and the rest of x and y, which is not 0 and has no zeros at its end. Zeros may be at the ends of both results: the rest has as many digits as y, unless x has fewer.
func divided(x, y []int) ([]int, []int) {
	switch {
	case len(x) < len(y):
		return nil, copied(x, len(x))
	case len(y) == 1:
		return shortDivided(x, y[0])
	}
	return longDivided(x, y)
}

// shortDivided returns the quotient and the rest of x and the digit y.
func shortDivided(x []int, y int) ([]int, []int) {
	q, rest := make([]int, len(x)), uint64(0)
	for i := range len(x) {
		at := len(x) - 1 - i
		t := rest*api.Base + uint64(x[at])
		q[at] = int(t / uint64(y))
		rest = t % uint64(y)
	}
	return q, []int{int(rest)}
}

// longDivided returns the quotient and the rest of x and y, which has at least two digits, and not more than x.
func longDivided(x, y []int) ([]int, []int) {
	// The factor makes the last digit of y at least half of Base, where it tells nearly all about a digit of the quotient.
	n, factor := len(y), api.Base/(y[len(y)-1]+1)
	y = trimmed(product(y, []int{factor}))
	rest := product(x, []int{factor})
	q, left := make([]int, len(x)-n+1), make([]int, n+1)
digits:
	for i := range len(q) {
		at := len(q) - 1 - i
		part := rest[at : at+n+1]
		for guess := atMost(part, y); guess > 0; guess-- {
			if subtract(left, part, y, guess) {
				copy(part, left)
				q[at] = guess
				continue digits
			}
		}
	}
	rest, _ = shortDivided(rest[:n], factor)
	return q, rest
}

// atMost returns a digit that is not less than the quotient of x and y, and hardly ever greater: y has at least two digits, and x has one more and is less than Base * y.
func atMost(x, y []int) int {
	n := len(y)
	head := x[n]*api.Base + x[n-1]
	guess := min(head/y[n-1], api.Base-1)
	for guess*y[n-2] > (head-guess*y[n-1])*api.Base+x[n-2] {
		guess--
	}
	return guess
}

// subtract puts x - n * y into z, and reports whether that is not negative. Both x and z have a digit more than y.
func subtract(z, x, y []int, n int) bool {
	over := 0
	for i, d := range y {
		// The square of Base keeps this from being negative, and adds just Base to the carry.
		t := uint64(api.Base*api.Base + x[i] - n*d - over)
		over = api.Base - int(t/api.Base)
		z[i] = int(t % api.Base)
	}
	z[len(y)] = x[len(y)] - over
	return z[len(y)] >= 0
}
