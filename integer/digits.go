package integer

import (
	"cmp"

	"sherd/api"
)

// The functions of this file calculate with digits: lists of numbers from 0 to Base - 1, the least significant one first, that stand for a number which is not negative. An int has room for a product of two digits, and for several such products.

const (
	wordDigits = 3 // a number of 64 bits has at most so many digits
	wordTop    = 9 // and all numbers of so many digits with such a last one have 64 bits
)

// digitsOf returns the digits of m.
func digitsOf(m uint64) []int {
	var d [wordDigits]int
	n := 0
	for ; m > 0; m /= api.Base {
		d[n] = int(m % api.Base)
		n++
	}
	return copied(d[:], n)
}

// number returns the number with digits d, modulo 2^64.
func number(d []int) uint64 {
	m := uint64(0)
	for i := range len(d) {
		m = m*api.Base + uint64(d[len(d)-1-i])
	}
	return m
}

// copied returns a copy of the first n digits of d, with zeros for those that d does not have.
func copied(d []int, n int) []int {
	c := make([]int, n)
	copy(c, d)
	return c
}

// trimmed returns d without the zeros at its end.
func trimmed(d []int) []int {
	n := len(d)
	for n > 0 && d[n-1] == 0 {
		n--
	}
	return d[:n]
}

// compare returns -1, 0 or 1, if x is less than, equal to, or greater than y; neither has zeros at its end.
func compare(x, y []int) int {
	if len(x) != len(y) {
		return cmp.Compare(len(x), len(y))
	}
	for i := range len(x) {
		if at := len(x) - 1 - i; x[at] != y[at] {
			return cmp.Compare(x[at], y[at])
		}
	}
	return 0
}

// sum returns x + y.
func sum(x, y []int) []int {
	if len(x) < len(y) {
		x, y = y, x
	}
	z := copied(x, len(x)+1)
	for i, d := range y {
		z[i] += d
	}
	for i := range len(x) {
		if z[i] >= api.Base {
			z[i] -= api.Base
			z[i+1]++
		}
	}
	return z
}

// difference returns x - y, where y is at most x.
func difference(x, y []int) []int {
	z := copied(x, len(x))
	for i, d := range y {
		z[i] -= d
	}
	for i := range len(z) {
		if z[i] < 0 {
			z[i] += api.Base
			z[i+1]--
		}
	}
	return z
}

// product returns x * y, with as many digits as x and y together.
func product(x, y []int) []int {
	z := make([]int, len(x)+len(y))
	for i, a := range x {
		row, over := z[i:], 0
		for j, b := range y {
			t := uint64(a*b + row[j] + over)
			over = int(t / api.Base)
			row[j] = int(t % api.Base)
		}
		row[len(y)] = over
	}
	return z
}
