package rat

import (
	"cmp"

	"sherd/api"
	"sherd/integer"
)

// Compare returns -1, 0 or 1, if a is less than, equal to, or greater than b.
func Compare(a, b api.Rat) int {
	if first, second := Sign(a), Sign(b); first != second {
		return cmp.Compare(first, second)
	}
	return integer.Compare(integer.Mul(a.P, Den(b)), integer.Mul(b.P, Den(a)))
}

// Sign returns -1, 0 or 1, if a is less than, equal to, or greater than 0.
func Sign(a api.Rat) int { return integer.Sign(a.P) }

// Same reports whether a and b are equal.
func Same(a, b api.Rat) bool {
	// Each number is written in one way only.
	return integer.Compare(a.P, b.P) == 0 && integer.Compare(a.Q, b.Q) == 0
}

// Between returns, of the numbers from lo to hi, the one with the least denominator, and of these the one with the least absolute value.
func Between(lo, hi api.Rat) (api.Rat, api.Errno) {
	switch {
	case Same(lo, hi):
		return lo, api.OK
	case Compare(lo, hi) > 0:
		return api.Rat{}, api.ErrArg
	case Sign(lo) > 0:
		return least(lo, hi), api.OK
	case Sign(hi) < 0:
		return Neg(least(Neg(hi), Neg(lo))), api.OK
	}
	return api.Rat{}, api.OK
}

// least returns the number with the least numerator and denominator from lo to hi, where lo is positive.
func least(lo, hi api.Rat) api.Rat {
	// before returns the number whose continued fraction begins with l and goes on with p / q.
	var before func(l []api.Int, p, q api.Int) (api.Int, api.Int)
	before = func(l []api.Int, p, q api.Int) (api.Int, api.Int) {
		if len(l) == 1 {
			return integer.Add(integer.Mul(l[0], p), q), p
		}
		// Taking halves keeps the calls few levels deep, however long the numbers are.
		half := len(l) / 2
		p, q = before(l[half:], p, q)
		return before(l[:half], p, q)
	}
	return made(before(quotients(lo, hi), integer.Of(1), api.Int{}))
}

// quotients returns the continued fraction of the number with the least numerator and denominator from lo to hi, where lo is positive.
func quotients(lo, hi api.Rat) []api.Int {
	var l []api.Int
	a, b, c, d := lo.P, Den(lo), hi.P, Den(hi)
	for {
		// The interval that is left is from a / b to c / d.
		whole, rest := integer.Div(a, b)
		if integer.Sign(rest) == 0 {
			return append(l, whole)
		}
		more := integer.Sub(c, integer.Mul(whole, d))
		if integer.Compare(more, d) >= 0 {
			return append(l, integer.Add(whole, integer.Of(1)))
		}
		// No whole number is in the interval. What is behind it is least if its inverse is.
		l = append(l, whole)
		a, b, c, d = d, more, b, rest
	}
}
