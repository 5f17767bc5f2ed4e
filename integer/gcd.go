package integer

import "sherd/api"

// Gcd returns the greatest integer that divides x and y, and 0 if both are 0.
func Gcd(x, y api.Int) api.Int {
	a, b := x.D, y.D
	if compare(a, b) < 0 {
		a, b = b, a
	}
	return made(false, gcd(a, b))
}

// gcd returns the greatest common divisor of x and y, which is at most x; neither has zeros at its end.
func gcd(x, y []int) []int {
	x, y = copied(x, len(x)), copied(y, len(x))
	for len(x) > 2 {
		rows, found := steps(x, y)
		switch {
		case found:
			apply(rows, x, y)
		case len(trimmed(y)) == 0:
			return x
		default:
			x, y = step(x, trimmed(y))
		}
		x = trimmed(x)
	}
	a, b := number(x), number(y)
	for b > 0 {
		a, b = b, a%b
	}
	return digitsOf(a)
}

// step returns y and the rest of x and y.
func step(x, y []int) ([]int, []int) {
	_, rest := divided(x, y)
	return y, rest
}

// row says of a number how many times x and how many times y it is.
type row [2]int

// steps returns what several steps of Euclid's algorithm make of x and y, and whether there is any such step. It takes those steps which the two highest digits decide, whatever the others are (Lehmer's method). x has at least two digits, and y is at most x, with at least as many digits, the last of which may be zeros. The numbers in the rows are less than Base.
func steps(x, y []int) ([2]row, bool) {
	n := len(x)
	a, b := x[n-1]*api.Base+x[n-2], y[n-1]*api.Base+y[n-2]
	upper, lower, found := row{1, 0}, row{0, 1}, false
	// With their other digits behind the point, the numbers of the two rows are between a + upper[0] and a + upper[1], and between b + lower[0] and b + lower[1].
	for b+lower[0] > 0 && b+lower[1] > 0 {
		q := (a + upper[0]) / (b + lower[0])
		next := row{upper[0] - q*lower[0], upper[1] - q*lower[1]}
		// The second number of a row is never nearer to 0 than the first one.
		if q != (a+upper[1])/(b+lower[1]) || max(next[1], -next[1]) >= api.Base {
			break
		}
		a, b = b, a-q*b
		upper, lower, found = lower, next, true
	}
	return [2]row{upper, lower}, found
}

// apply replaces x and y by the numbers of two rows, which have no more digits.
func apply(rows [2]row, x, y []int) {
	over, under := 0, 0
	for i := range len(x) {
		a, b := x[i], y[i]
		over, x[i] = carried(a*rows[0][0] + b*rows[0][1] + over)
		under, y[i] = carried(a*rows[1][0] + b*rows[1][1] + under)
	}
}

// carried splits t into a carry, which may be negative, and a digit.
func carried(t int) (int, int) {
	// Twice the square of Base keeps this from being negative, and adds twice Base to the carry.
	u := uint64(2*api.Base*api.Base + t)
	return int(u/api.Base) - 2*api.Base, int(u % api.Base)
}
