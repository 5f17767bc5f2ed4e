package rat

import (
	"sherd/api"
	"sherd/integer"
)

// Add returns a + b.
func Add(a, b api.Rat) api.Rat {
	if whole(a, b) {
		return api.Rat{P: integer.Add(a.P, b.P)}
	}
	common := integer.Gcd(Den(a), Den(b))
	left, right := part(Den(a), common), part(Den(b), common)
	p := integer.Add(integer.Mul(a.P, right), integer.Mul(b.P, left))
	// What divides left or right does not divide p: only divisors of the common one may be left.
	more := integer.Gcd(p, common)
	return made(part(p, more), integer.Mul(left, part(Den(b), more)))
}

// Sub returns a - b.
func Sub(a, b api.Rat) api.Rat { return Add(a, Neg(b)) }

// Mul returns a * b.
func Mul(a, b api.Rat) api.Rat {
	if whole(a, b) {
		return api.Rat{P: integer.Mul(a.P, b.P)}
	}
	// Dividing first keeps the numbers short: no divisor is left in common by the products.
	first, second := integer.Gcd(a.P, Den(b)), integer.Gcd(b.P, Den(a))
	p := integer.Mul(part(a.P, first), part(b.P, second))
	return made(p, integer.Mul(part(Den(a), second), part(Den(b), first)))
}

// Div returns a / b, and 0 if b is 0.
func Div(a, b api.Rat) api.Rat {
	if whole(a, b) {
		if q, rest := integer.Div(a.P, b.P); integer.Sign(rest) == 0 {
			return api.Rat{P: q}
		}
	}
	switch Sign(b) {
	case 0:
		return api.Rat{}
	case -1:
		return Mul(Neg(a), inverse(Neg(b)))
	}
	return Mul(a, inverse(b))
}

// inverse returns 1 / a, where a is positive.
func inverse(a api.Rat) api.Rat { return made(Den(a), a.P) }

// Neg returns -a.
func Neg(a api.Rat) api.Rat { return api.Rat{P: integer.Neg(a.P), Q: a.Q} }

// Dot returns the sum of the products of the elements that both lists have.
func Dot(a, b []api.Rat) api.Rat {
	n := min(len(a), len(b))
	products := make([]api.Rat, n)
	for i := range n {
		products[i] = Mul(a[i], b[i])
	}
	return total(products...)
}

// total returns the sum of all terms.
func total(terms ...api.Rat) api.Rat {
	sum := api.Rat{}
	for _, a := range terms {
		sum = Add(sum, a)
	}
	return sum
}

// whole reports whether all numbers are whole: then no divisors need to be looked for.
func whole(l ...api.Rat) bool {
	for _, a := range l {
		if len(a.Q.D) > 0 {
			return false
		}
	}
	return true
}
