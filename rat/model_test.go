package rat_test

import (
	"fmt"
	"math"
	"math/big"
	"math/rand/v2"
	"slices"
	"testing"

	"sherd/api"
	"sherd/integer"
	"sherd/rat"
)

// bigOf returns what an integer stands for.
func bigOf(x api.Int) *big.Int {
	v, ok := new(big.Int).SetString(integer.Text(x), 10)
	if !ok {
		panic("the text of an integer is none")
	}
	return v
}

// whole returns the integer that stands for v.
func whole(v *big.Int) api.Int {
	x, e := integer.Parse(v.String())
	if e != api.OK {
		panic("the text of an integer is too long")
	}
	return x
}

// value returns what a valid number stands for, as the chapter defines it.
func value(a api.Rat) *big.Rat {
	q := big.NewInt(1)
	if len(a.Q.D) > 0 {
		q = bigOf(a.Q)
	}
	return new(big.Rat).SetFrac(bigOf(a.P), q)
}

// of returns the number that stands for v, without the package's help.
func of(v *big.Rat) api.Rat {
	a := api.Rat{P: whole(v.Num())}
	if !v.IsInt() {
		a.Q = whole(v.Denom())
	}
	return a
}

// canonical follows the wording of the chapter: which numbers are valid.
func canonical(a api.Rat) bool {
	if !integer.Valid(a.P) || !integer.Valid(a.Q) {
		return false
	}
	p, q := bigOf(a.P), big.NewInt(1)
	if len(a.Q.D) > 0 {
		q = bigOf(a.Q)
		if q.Cmp(big.NewInt(1)) <= 0 || p.Sign() == 0 {
			return false
		}
	}
	return new(big.Int).GCD(nil, nil, new(big.Int).Abs(p), q).Cmp(big.NewInt(1)) == 0
}

// identical reports whether two numbers have the same signs and digits.
func identical(a, b api.Rat) bool { return sameInt(a.P, b.P) && sameInt(a.Q, b.Q) }

func sameInt(x, y api.Int) bool { return x.Neg == y.Neg && slices.Equal(x.D, y.D) }

// show is for messages: the text of anything, shortened in the middle.
func show(x any) string {
	s := fmt.Sprint(x)
	if len(s) > 160 {
		s = fmt.Sprintf("%s...%s (%d bytes)", s[:70], s[len(s)-70:], len(s))
	}
	return s
}

// check reports a result that is not valid or does not stand for want.
func check(t *testing.T, promise string, got api.Rat, want *big.Rat, args ...any) {
	t.Helper()
	if !canonical(got) {
		t.Fatalf("%s: %s: the result is not valid: %s", promise, show(args), show(got))
	}
	if !identical(got, of(want)) {
		t.Fatalf("%s: %s: %s, not %s", promise, show(args), show(value(got)), show(want))
	}
}

// power returns b to the power of n.
func power(b int64, n int) *big.Int {
	return new(big.Int).Exp(big.NewInt(b), big.NewInt(int64(n)), nil)
}

// someInts returns ints at which representations change, from the least to the greatest one, and some with common divisors.
func someInts() []int {
	l := []int{0, math.MinInt, math.MinInt + 1, math.MaxInt, math.MaxInt - 1}
	for _, n := range []int{1, 2, 3, 4, 6, 12, 35, 999999, 999999999, 1000000000, 1000000001, 1 << 31, 1 << 32, 999999999999999999, 1000000000000000000, 1 << 62, 3037000500} {
		l = append(l, n, -n)
	}
	return l
}

// edges returns numbers at which representations change, each once, in rising order.
func edges() []*big.Rat {
	above := []*big.Int{big.NewInt(0), big.NewInt(1), big.NewInt(2), big.NewInt(3), big.NewInt(12), big.NewInt(999999999), big.NewInt(1000000000), big.NewInt(math.MaxInt), power(2, 63), power(2, 64), power(10, 27), power(7, 60)}
	below := []*big.Int{big.NewInt(1), big.NewInt(2), big.NewInt(3), big.NewInt(18), big.NewInt(1000000000), big.NewInt(1000000001), big.NewInt(math.MaxInt), power(2, 63), power(2, 64), power(10, 36), power(3, 70)}
	var l []*big.Rat
	for _, p := range above {
		for _, q := range below {
			v := new(big.Rat).SetFrac(p, q)
			l = append(l, v, new(big.Rat).Neg(v))
		}
	}
	slices.SortFunc(l, (*big.Rat).Cmp)
	return slices.CompactFunc(l, func(v, w *big.Rat) bool { return v.Cmp(w) == 0 })
}

// numbers returns the numbers that stand for the edges.
func numbers() []api.Rat {
	var l []api.Rat
	for _, v := range edges() {
		l = append(l, of(v))
	}
	return l
}

// small returns all numbers with denominators from 1 to n whose absolute values are at most most, each once, in rising order.
func small(n, most int) []*big.Rat {
	var l []*big.Rat
	for q := 1; q <= n; q++ {
		for p := -most * q; p <= most*q; p++ {
			l = append(l, big.NewRat(int64(p), int64(q)))
		}
	}
	slices.SortFunc(l, (*big.Rat).Cmp)
	return slices.CompactFunc(l, func(v, w *big.Rat) bool { return v.Cmp(w) == 0 })
}

// digits returns an integer that is not negative, of about n digits; it is likely to have small divisors.
func digits(r *rand.Rand, n int) *big.Int {
	v := new(big.Int)
	for range n {
		d := []int{0, 1, 500000000, 999999999, r.IntN(api.Base), r.IntN(api.Base), r.IntN(api.Base)}[r.IntN(7)]
		v.Add(v.Mul(v, big.NewInt(api.Base)), big.NewInt(int64(d)))
	}
	for range 3 {
		v.Mul(v, big.NewInt(int64(1+r.IntN(12))))
	}
	return v
}

// random returns a number whose numerator and denominator have about n digits at most.
func random(r *rand.Rand, n int) *big.Rat {
	p, q := digits(r, r.IntN(n+1)), digits(r, r.IntN(n+1))
	if r.IntN(4) == 0 || q.Sign() == 0 {
		q = big.NewInt(int64(1 + r.IntN(12)))
	}
	if r.IntN(2) == 0 {
		p.Neg(p)
	}
	return new(big.Rat).SetFrac(p, q)
}

func TestModel(t *testing.T) {
	for _, v := range append(edges(), small(6, 2)...) {
		a := of(v)
		if !canonical(a) || value(a).Cmp(v) != 0 {
			t.Fatal("the model contradicts itself at", show(v))
		}
	}
	if !identical(rat.Of(-3, 4), api.Rat{P: api.Int{Neg: true, D: []int{3}}, Q: api.Int{D: []int{4}}}) {
		t.Fatal("P4.1: -3/4 is", rat.Of(-3, 4))
	}
}
