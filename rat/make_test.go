package rat_test

import (
	"math"
	"math/big"
	"math/rand/v2"
	"testing"

	"sherd/api"
	"sherd/integer"
	"sherd/rat"
)

// num and neg return an integer with the given digits, and its negative.
func num(d ...int) api.Int { return api.Int{D: d} }
func neg(d ...int) api.Int { return api.Int{Neg: true, D: d} }

func TestKnownNumbers(t *testing.T) {
	for _, x := range []struct {
		p, q int
		a    api.Rat
	}{
		{0, 0, api.Rat{}},
		{5, 0, api.Rat{}},
		{-5, 0, api.Rat{}},
		{math.MinInt, 0, api.Rat{}},
		{math.MaxInt, 0, api.Rat{}},
		{0, 1, api.Rat{}},
		{0, -1, api.Rat{}},
		{0, 7, api.Rat{}},
		{0, math.MinInt, api.Rat{}},
		{1, 1, api.Rat{P: num(1)}},
		{-1, 1, api.Rat{P: neg(1)}},
		{1, -1, api.Rat{P: neg(1)}},
		{-1, -1, api.Rat{P: num(1)}},
		{6, -8, api.Rat{P: neg(3), Q: num(4)}},
		{-6, 8, api.Rat{P: neg(3), Q: num(4)}},
		{-6, -8, api.Rat{P: num(3), Q: num(4)}},
		{8, 6, api.Rat{P: num(4), Q: num(3)}},
		{8, 4, api.Rat{P: num(2)}},
		{4, 8, api.Rat{P: num(1), Q: num(2)}},
		{1000000000, 3, api.Rat{P: num(0, 1), Q: num(3)}},
		{3, 1000000000, api.Rat{P: num(3), Q: num(0, 1)}},
		{math.MinInt, 1, api.Rat{P: neg(854775808, 223372036, 9)}},
		{math.MinInt, -1, api.Rat{P: num(854775808, 223372036, 9)}},
		{math.MinInt, math.MinInt, api.Rat{P: num(1)}},
		{math.MinInt, math.MaxInt, api.Rat{P: neg(854775808, 223372036, 9), Q: num(854775807, 223372036, 9)}},
		{math.MaxInt, math.MinInt, api.Rat{P: neg(854775807, 223372036, 9), Q: num(854775808, 223372036, 9)}},
		{math.MaxInt, -math.MaxInt, api.Rat{P: neg(1)}},
		{1, math.MinInt, api.Rat{P: neg(1), Q: num(854775808, 223372036, 9)}},
		{-2, math.MinInt, api.Rat{P: num(1), Q: num(427387904, 611686018, 4)}},
		{math.MinInt, 1 << 62, api.Rat{P: neg(2)}},
	} {
		if got := rat.Of(x.p, x.q); !identical(got, x.a) {
			t.Errorf("P4.1: Of(%d, %d) is %v", x.p, x.q, got)
		}
	}
}

// quotient is the model of Of and Make.
func quotient(p, q *big.Int) *big.Rat {
	if q.Sign() == 0 {
		return new(big.Rat)
	}
	return new(big.Rat).SetFrac(p, q)
}

func TestOfInts(t *testing.T) {
	for _, p := range someInts() {
		for _, q := range someInts() {
			v, w := big.NewInt(int64(p)), big.NewInt(int64(q))
			check(t, "P4.1", rat.Of(p, q), quotient(v, w), "Of", p, q)
			check(t, "P4.1", rat.Make(integer.Of(p), integer.Of(q)), quotient(v, w), "Make", p, q)
		}
	}
	for p := -30; p <= 30; p++ {
		for q := -30; q <= 30; q++ {
			check(t, "P4.1", rat.Of(p, q), quotient(big.NewInt(int64(p)), big.NewInt(int64(q))), "Of", p, q)
		}
	}
}

func TestMake(t *testing.T) {
	r := rand.New(rand.NewPCG(4, 1))
	for range 20000 {
		p, q, f := digits(r, r.IntN(6)), digits(r, r.IntN(6)), digits(r, r.IntN(4))
		p.Mul(p, f)
		q.Mul(q, f)
		for range 2 {
			check(t, "P4.1", rat.Make(whole(p), whole(q)), quotient(p, q), "Make", p, q)
			p.Neg(p)
			check(t, "P4.1", rat.Make(whole(p), whole(q)), quotient(p, q), "Make", p, q)
			q.Neg(q)
		}
		check(t, "P4.1", rat.Make(whole(p), api.Int{}), new(big.Rat), "Make", p, 0)
	}
	p, q := digits(r, 900), digits(r, 800)
	check(t, "P4.1", rat.Make(whole(p), whole(q)), quotient(p, q), "Make of many digits")
	f := digits(r, 700)
	check(t, "P4.1", rat.Make(whole(p.Mul(p, f)), whole(q.Mul(q, f))), quotient(p, q), "Make of many digits in common")
}

func TestDen(t *testing.T) {
	for _, v := range append(edges(), small(12, 3)...) {
		if got := rat.Den(of(v)); !sameInt(got, whole(v.Denom())) {
			t.Errorf("P4.1: Den(%s) is %v", show(v), got)
		}
	}
	if got := rat.Den(api.Rat{}); !sameInt(got, num(1)) {
		t.Error("P4.1: the denominator of 0 is", got)
	}
}

func TestValid(t *testing.T) {
	for _, a := range []api.Rat{
		{}, {P: num(), Q: num()}, {P: num(5)}, {P: neg(5)}, {P: num(1), Q: num(2)}, {P: neg(3), Q: num(4)}, {P: neg(9), Q: num(4)},
		{P: num(0, 1), Q: num(7)}, {P: num(7), Q: num(0, 1)}, {P: num(17), Q: num(1, 1)}, {P: num(0, 0, 1), Q: num(1, 0, 1)},
	} {
		if !rat.Valid(a) {
			t.Errorf("P4.1: %v is not valid", a)
		}
	}
	for reason, l := range map[string][]api.Rat{
		"its denominator is 1":               {{P: num(1), Q: num(1)}, {P: num(3), Q: num(1)}, {P: neg(0, 1), Q: num(1)}},
		"0 has a denominator":                {{Q: num(1)}, {Q: num(2)}, {P: num(), Q: num(0, 1)}},
		"there is a common divisor":          {{P: num(2), Q: num(4)}, {P: num(4), Q: num(2)}, {P: neg(6), Q: num(9)}, {P: num(5), Q: num(5)}, {P: num(0, 1), Q: num(0, 1)}, {P: num(0, 2), Q: num(0, 3)}, {P: num(7), Q: num(1, 1)}},
		"its denominator is negative":        {{P: num(1), Q: neg(2)}, {P: num(1), Q: neg(1)}, {P: neg(3), Q: neg(4)}, {Q: neg(1)}, {P: num(5), Q: neg(0, 1)}},
		"its numerator is not valid":         {{P: neg()}, {P: neg(), Q: num(3)}, {P: num(0)}, {P: num(1, 0)}, {P: num(-1)}, {P: num(1000000000), Q: num(3)}, {P: num(math.MaxInt, 1), Q: num(3)}, {P: num(math.MinInt)}},
		"its denominator is no valid number": {{Q: neg()}, {P: num(1), Q: neg()}, {P: num(1), Q: num(0)}, {P: num(1), Q: num(2, 0)}, {P: num(1), Q: num(-2)}, {P: num(1), Q: num(1000000000)}, {P: num(1), Q: num(1000000000, 1)}, {P: num(1), Q: num(0, 0, 0, 0)}},
		"both are not valid":                 {{P: num(math.MinInt), Q: num(math.MinInt)}, {P: neg(), Q: neg()}, {P: num(0), Q: num(0)}},
	} {
		for _, a := range l {
			if rat.Valid(a) {
				t.Errorf("P4.1: %v is valid, although %s", a, reason)
			}
		}
	}
}

// eachInt calls f with each integer, valid or not, that has at most n of some digits.
func eachInt(n int, f func(api.Int)) {
	var extend func(d []int)
	extend = func(d []int) {
		f(api.Int{D: d})
		f(api.Int{Neg: true, D: d})
		if len(d) < n {
			for _, c := range []int{0, 1, 2, 3, 999999999, 1000000000, -1, math.MinInt} {
				extend(append(d[:len(d):len(d)], c))
			}
		}
	}
	extend(nil)
}

func TestValidOfAllDigits(t *testing.T) {
	eachInt(2, func(p api.Int) {
		eachInt(2, func(q api.Int) {
			if a := (api.Rat{P: p, Q: q}); rat.Valid(a) != canonical(a) {
				t.Errorf("P4.1: Valid(%v) is not %v", a, canonical(a))
			}
		})
	})
}

func TestValidOfManyDigits(t *testing.T) {
	r := rand.New(rand.NewPCG(4, 2))
	for range 300 {
		p, q := digits(r, 60), digits(r, 50)
		f := new(big.Int).GCD(nil, nil, p, q)
		p.Div(p, f)
		q.Div(q, f)
		for _, f := range []int64{1, 2, 999999937, -1} {
			w := big.NewInt(f)
			a := api.Rat{P: whole(new(big.Int).Mul(p, w)), Q: whole(new(big.Int).Mul(q, w))}
			if rat.Valid(a) != (f == 1) || canonical(a) != (f == 1) {
				t.Fatalf("P4.1: Valid of a number with the common divisor %d is not %v", f, f == 1)
			}
		}
		a := api.Rat{P: whole(p), Q: whole(q)}
		a.Q.D[r.IntN(len(a.Q.D)-1)] = []int{-1, api.Base, math.MaxInt}[r.IntN(3)]
		if rat.Valid(a) {
			t.Fatal("P4.1: a digit that is none is valid:", show(a))
		}
	}
}
