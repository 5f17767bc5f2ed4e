package integer_test

import (
	"math/big"
	"math/rand/v2"
	"testing"

	"sherd/api"
	"sherd/integer"
)

// checkDiv compares a quotient and a rest with the wording of P3.3.
func checkDiv(t *testing.T, x, y api.Int) {
	t.Helper()
	q, r := integer.Div(x, y)
	v, w := value(x), value(y)
	if w.Sign() == 0 {
		if !same(q, api.Int{}) || !same(r, api.Int{}) {
			t.Fatalf("P3.3: Div of %s and 0 is %v, %v", show(v), q, r)
		}
		return
	}
	if !canonical(q) || !canonical(r) {
		t.Fatalf("P3.3: Div(%s, %s) is not valid: %s, %s", show(v), show(w), show(q), show(r))
	}
	rest := value(r)
	if rest.Sign() < 0 || rest.CmpAbs(w) >= 0 {
		t.Fatalf("P3.3: Div(%s, %s): the rest is %s", show(v), show(w), show(rest))
	}
	if back := new(big.Int).Mul(value(q), w); back.Add(back, rest).Cmp(v) != 0 {
		t.Fatalf("P3.3: Div(%s, %s): the quotient is %s, the rest %s", show(v), show(w), show(value(q)), show(rest))
	}
}

func TestKnownQuotients(t *testing.T) {
	for _, x := range []struct{ x, y, q, r int }{
		{-7, 2, -4, 1},
		{7, -2, -3, 1},
		{-7, -2, 4, 1},
		{7, 2, 3, 1},
		{6, 3, 2, 0},
		{-6, 3, -2, 0},
		{6, -3, -2, 0},
		{-6, -3, 2, 0},
		{-1, 2, -1, 1},
		{-1, -2, 1, 1},
		{1, -2, 0, 1},
		{0, 5, 0, 0},
		{0, -5, 0, 0},
		{5, 0, 0, 0},
		{-5, 0, 0, 0},
		{0, 0, 0, 0},
		{-1, 1000000000, -1, 999999999},
		{-1, -1000000000, 1, 999999999},
		{-1000000000, 999999999, -2, 999999998},
		{1000000000000000000, 1000000000, 1000000000, 0},
		{-999999999999999999, 1000000000, -1000000000, 1},
	} {
		q, r := integer.Div(integer.Of(x.x), integer.Of(x.y))
		if !same(q, number(x.q)) || !same(r, number(x.r)) {
			t.Errorf("P3.3: Div(%d, %d) is %v, %v", x.x, x.y, q, r)
		}
	}
}

func TestDivAtEdges(t *testing.T) {
	l := integers()
	for _, x := range l {
		for _, y := range l {
			checkDiv(t, x, y)
		}
	}
	for m := -60; m <= 60; m++ {
		for n := -60; n <= 60; n++ {
			checkDiv(t, number(m), number(n))
		}
	}
}

// Quotients are guessed from the first digits: with these digits, many guesses are too great.
func TestDivOfStrangeDigits(t *testing.T) {
	digits := []int{0, 1, api.Base / 2, api.Base - 1}
	var divisors []api.Int
	eachList(3, digits, func(l []int) {
		if x := (api.Int{D: l}); canonical(x) {
			divisors = append(divisors, x)
		}
	})
	eachList(5, digits, func(l []int) {
		if x := (api.Int{D: l}); canonical(x) {
			for _, y := range divisors {
				checkDiv(t, x, y)
			}
		}
	})
}

func TestDivWhereTheGuessIsTooGreat(t *testing.T) {
	// The first three digits of x and two of y do not show that the quotient is less by 1.
	x := api.Int{D: []int{0, 0, 0, api.Base / 2}}
	for _, low := range []int{0, 1, 2, api.Base / 2, api.Base - 1} {
		for _, middle := range []int{0, 1, 2, api.Base - 2, api.Base - 1} {
			for _, high := range []int{1, 2, api.Base/2 - 1, api.Base / 2, api.Base/2 + 1, api.Base - 1} {
				y := api.Int{D: []int{low, middle, high}}
				for _, n := range []int{0, 1, 2, 999999998, 999999999, 500000000} {
					// Just below a multiple of y the quotient is less than that of the first digits.
					multiple := integer.Mul(y, number(n))
					for _, d := range []int{-2, -1, 0, 1} {
						checkDiv(t, integer.Add(multiple, number(d)), y)
						checkDiv(t, integer.Add(integer.Mul(multiple, number(api.Base)), number(d)), y)
					}
				}
				checkDiv(t, x, y)
			}
		}
	}
}

func TestDivOfRandomNumbers(t *testing.T) {
	r := rand.New(rand.NewPCG(3, 4))
	for range 200000 {
		checkDiv(t, random(r, 1+r.IntN(14)), random(r, 1+r.IntN(8)))
	}
	for range 300 {
		checkDiv(t, random(r, 300), random(r, 150))
	}
	for range 20000 { // rests of 0, and those next to it
		y, q := random(r, 6), random(r, 6)
		x := integer.Mul(y, q)
		for _, d := range []int{-1, 0, 1} {
			checkDiv(t, integer.Add(x, number(d)), y)
		}
		if got, rest := integer.Div(x, y); len(y.D) > 0 && (!same(got, q) || len(rest.D) > 0) {
			t.Fatalf("P3.3: Div does not undo Mul: %v, %v", y, q)
		}
	}
}

func TestDivOfManyDigits(t *testing.T) {
	x := long(7282, 6)
	for _, n := range []int{1, 2, 3, 100, 3641, 7281, 7282, 7283} {
		for _, y := range []api.Int{long(n, 7), integer.Neg(long(n, 8))} {
			checkDiv(t, x, y)
			checkDiv(t, integer.Neg(x), y)
		}
	}
}

// checkGcd compares a greatest common divisor with the model.
func checkGcd(t *testing.T, x, y api.Int) {
	t.Helper()
	v, w := new(big.Int).Abs(value(x)), new(big.Int).Abs(value(y))
	check(t, "P3.3", integer.Gcd(x, y), new(big.Int).GCD(nil, nil, v, w), "Gcd", value(x), value(y))
}

func TestKnownDivisors(t *testing.T) {
	for _, x := range []struct{ x, y, g int }{
		{0, 0, 0}, {0, 7, 7}, {7, 0, 7}, {0, -7, 7}, {-7, 0, 7}, {12, 18, 6}, {-12, 18, 6}, {12, -18, 6}, {-12, -18, 6},
		{1, 1000000007, 1}, {17, 17, 17}, {-17, 17, 17}, {6, 3, 3}, {3, 6, 3},
		{1000000000000000000, 1000000000, 1000000000}, {999999999999999999, 999999999, 999999999},
	} {
		if g := integer.Gcd(integer.Of(x.x), integer.Of(x.y)); !same(g, number(x.g)) {
			t.Errorf("P3.3: Gcd(%d, %d) is %v", x.x, x.y, g)
		}
	}
}

func TestGcdAtEdges(t *testing.T) {
	l := integers()
	for _, x := range l {
		for _, y := range l {
			checkGcd(t, x, y)
		}
	}
	for m := -60; m <= 60; m++ {
		for n := -60; n <= 60; n++ {
			checkGcd(t, number(m), number(n))
		}
	}
}

func TestGcdOfRandomNumbers(t *testing.T) {
	r := rand.New(rand.NewPCG(3, 5))
	for range 60000 {
		x, y, z := random(r, 1+r.IntN(10)), random(r, 1+r.IntN(10)), random(r, 1+r.IntN(5))
		checkGcd(t, x, y)
		checkGcd(t, integer.Mul(x, z), integer.Mul(y, z))
	}
	for range 300 {
		checkGcd(t, random(r, 120), random(r, 120))
	}
}

// backwards returns two neighbours of a sequence in which Euclid's algorithm has the given quotients, and ends at g.
func backwards(g *big.Int, quotients []int) (*big.Int, *big.Int) {
	x, y := new(big.Int).Set(g), new(big.Int)
	for _, q := range quotients {
		next := new(big.Int).Mul(x, big.NewInt(int64(q)))
		x, y = next.Add(next, y), x
	}
	return x, y
}

func TestGcdWithChosenQuotients(t *testing.T) {
	r := rand.New(rand.NewPCG(3, 6))
	choices := [][]int{
		{1}, {1, 2}, {2}, {1, 1000}, {999999999}, {1000000000}, {1, 999999999, 1000000000, 1000000001},
		{1, 1, 1, 1, 1 << 50}, {31622, 31623, 1}, {api.Base / 2, 3}, {1 << 62},
	}
	for k := range 6000 {
		choice := choices[k%len(choices)]
		quotients := make([]int, r.IntN(150))
		for i := range quotients {
			quotients[i] = choice[r.IntN(len(choice))]
		}
		g := value(random(r, 3))
		x, y := backwards(g.Abs(g), quotients)
		checkGcd(t, of(x), of(y))
		checkGcd(t, of(y.Neg(y)), of(x))
		checkGcd(t, of(x.Add(x, big.NewInt(1))), of(y))
	}
}

func TestGcdOfManyDigits(t *testing.T) {
	z := long(1000, 9)
	for _, n := range []int{1, 2, 500, 2000} {
		x, y := long(2000, 10), long(n, 11)
		checkGcd(t, x, y)
		checkGcd(t, integer.Mul(x, z), integer.Mul(z, y))
	}
	ones := make([]int, 30000) // neighbours of the sequence of Fibonacci, which take the most steps
	for i := range ones {
		ones[i] = 1
	}
	x, y := backwards(big.NewInt(12345), ones)
	checkGcd(t, of(x), of(y))
	checkGcd(t, long(7282, 12), long(7282, 13))
}

func TestDivisorLaws(t *testing.T) {
	r := rand.New(rand.NewPCG(3, 7))
	l := integers()
	for k := range 40000 {
		x, y, z := random(r, 6), random(r, 6), random(r, 3)
		if k%2 == 0 {
			x, y = l[r.IntN(len(l))], l[r.IntN(len(l))]
		}
		if k%3 == 0 {
			x, y = integer.Mul(x, z), integer.Mul(y, z)
		}
		g := integer.Gcd(x, y)
		if g.Neg || (len(g.D) == 0) != (len(x.D) == 0 && len(y.D) == 0) {
			t.Fatalf("P3.3: Gcd(%v, %v) is %v", x, y, g)
		}
		a, rest := integer.Div(x, g)
		b, more := integer.Div(y, g)
		if len(rest.D) > 0 || len(more.D) > 0 {
			t.Fatalf("P3.9: Gcd(%v, %v) does not divide both: %v", x, y, g)
		}
		if len(g.D) > 0 && !same(integer.Gcd(a, b), number(1)) {
			t.Fatalf("P3.9: Gcd(%v, %v) is not the greatest divisor: %v", x, y, g)
		}
		if _, rest := integer.Div(x, y); len(y.D) > 0 && !same(integer.Gcd(y, rest), g) {
			t.Fatalf("P3.9: Gcd(%v, %v) is not that of the divisor and the rest", x, y)
		}
		if !same(integer.Gcd(y, x), g) || !same(integer.Gcd(integer.Neg(x), y), g) {
			t.Fatalf("P3.9: Gcd(%v, %v) depends on their order or their signs", x, y)
		}
	}
}
