package integer_test

import (
	"math"
	"math/big"
	"math/rand/v2"
	"testing"

	"sherd/api"
	"sherd/integer"
)

// checkRing compares sums, differences and products with the model.
func checkRing(t *testing.T, x, y api.Int) {
	t.Helper()
	v, w := value(x), value(y)
	check(t, "P3.2", integer.Add(x, y), new(big.Int).Add(v, w), "Add", v, w)
	check(t, "P3.2", integer.Sub(x, y), new(big.Int).Sub(v, w), "Sub", v, w)
	check(t, "P3.2", integer.Mul(x, y), new(big.Int).Mul(v, w), "Mul", v, w)
}

func TestRingAtEdges(t *testing.T) {
	l := integers()
	for _, x := range l {
		for _, y := range l {
			checkRing(t, x, y)
		}
	}
}

func TestRingOfSmallNumbers(t *testing.T) {
	for m := -40; m <= 40; m++ {
		for n := -40; n <= 40; n++ {
			checkRing(t, number(m), number(n))
		}
	}
}

func TestRingOfRandomNumbers(t *testing.T) {
	r := rand.New(rand.NewPCG(3, 1))
	for range 100000 {
		checkRing(t, random(r, 1+r.IntN(12)), random(r, 1+r.IntN(12)))
	}
	for range 300 {
		checkRing(t, random(r, 200), random(r, 200))
	}
}

func TestCarriesThroughAllDigits(t *testing.T) {
	one := number(1)
	for _, n := range []int{1, 2, 3, 10, 100, 1000} {
		v := power(api.Base, n)
		all := new(big.Int).Sub(v, big.NewInt(1)) // n digits 999999999
		check(t, "P3.2", integer.Add(of(all), one), v, "the carry of", n)
		check(t, "P3.2", integer.Add(one, of(all)), v, "the carry of", n)
		check(t, "P3.2", integer.Sub(of(v), one), all, "the borrow of", n)
		check(t, "P3.2", integer.Sub(one, of(v)), new(big.Int).Neg(all), "the borrow of", n)
		check(t, "P3.2", integer.Add(of(all), of(all)), new(big.Int).Sub(new(big.Int).Add(v, v), big.NewInt(2)), "twice", n)
		check(t, "P3.2", integer.Mul(of(all), of(all)), new(big.Int).Mul(all, all), "the square of", n)
		check(t, "P3.2", integer.Sub(of(all), of(all)), new(big.Int), "the difference of equals", n)
		check(t, "P3.2", integer.Add(of(all), integer.Neg(of(all))), new(big.Int), "the sum of opposites", n)
		check(t, "P3.2", integer.Sub(of(v), of(all)), big.NewInt(1), "neighbours", n)
		check(t, "P3.2", integer.Sub(of(all), of(v)), big.NewInt(-1), "neighbours", n)
	}
}

func TestRingOfManyDigits(t *testing.T) {
	for _, m := range []int{1, 2, 50, 1000, 2000} {
		for _, n := range []int{1, 3, 49, 1001, 2001} {
			x, y := long(m, 3), long(n, 4)
			checkRing(t, x, y)
			checkRing(t, x, integer.Neg(y))
		}
	}
	x := long(7282, 5)
	check(t, "P3.2", integer.Mul(x, x), new(big.Int).Mul(value(x), value(x)), "a square of many digits")
}

func TestSquareOfTheExample(t *testing.T) {
	x := number(1 << 32)
	got := integer.Mul(x, x)
	if !same(got, api.Int{D: []int{709551616, 446744073, 18}}) {
		t.Error("P3.2: the square of 4294967296:", got)
	}
	if n, ok := integer.Small(got); n != 0 || ok {
		t.Error("P3.1: 2^64 is an int:", n, ok)
	}
}

func TestRingLaws(t *testing.T) {
	r := rand.New(rand.NewPCG(3, 2))
	l := integers()
	for k := range 40000 {
		x, y, z := random(r, 8), random(r, 8), random(r, 8)
		if k%2 == 0 {
			x, y = l[r.IntN(len(l))], l[r.IntN(len(l))]
		}
		if !same(integer.Add(x, y), integer.Add(y, x)) || !same(integer.Mul(x, y), integer.Mul(y, x)) {
			t.Fatal("P3.8: not commutative:", x, y)
		}
		if !same(integer.Add(integer.Add(x, y), z), integer.Add(x, integer.Add(y, z))) {
			t.Fatal("P3.8: Add is not associative:", x, y, z)
		}
		if !same(integer.Mul(integer.Mul(x, y), z), integer.Mul(x, integer.Mul(y, z))) {
			t.Fatal("P3.8: Mul is not associative:", x, y, z)
		}
		if !same(integer.Mul(x, integer.Add(y, z)), integer.Add(integer.Mul(x, y), integer.Mul(x, z))) {
			t.Fatal("P3.8: not distributive:", x, y, z)
		}
		if !same(integer.Sub(integer.Add(x, y), y), x) || !same(integer.Add(integer.Sub(x, y), y), x) {
			t.Fatal("P3.8: Sub does not undo Add:", x, y)
		}
		if !same(integer.Sub(x, y), integer.Add(x, integer.Neg(y))) {
			t.Fatal("P3.8: Sub is not Add of the negative:", x, y)
		}
		if c := integer.Compare(x, y); c != integer.Sign(integer.Sub(x, y)) || c != integer.Compare(integer.Add(x, z), integer.Add(y, z)) || c != -integer.Compare(y, x) {
			t.Fatal("P3.8: Compare is not the sign of the difference, or depends on what is added:", x, y, z)
		}
	}
}

func TestAgreementWithInts(t *testing.T) {
	l := someInts()
	r := rand.New(rand.NewPCG(3, 3))
	for range 200 {
		l = append(l, int(r.Uint64())>>r.IntN(64))
	}
	pairs := 0
	for _, m := range l {
		for _, n := range l {
			v, w := big.NewInt(int64(m)), big.NewInt(int64(n))
			sum, difference, product := new(big.Int).Add(v, w), new(big.Int).Sub(v, w), new(big.Int).Mul(v, w)
			if sum.IsInt64() && difference.IsInt64() && product.IsInt64() {
				pairs++
				checkInts(t, m, n)
			}
		}
	}
	if pairs < 10000 {
		t.Error("P3.11: too few pairs of ints:", pairs)
	}
}

// checkInts compares the functions with the operations of Go on two ints.
func checkInts(t *testing.T, m, n int) {
	t.Helper()
	x, y := integer.Of(m), integer.Of(n)
	small := func(name string, got api.Int, want int) {
		t.Helper()
		if k, ok := integer.Small(got); k != want || !ok || !same(got, integer.Of(want)) {
			t.Fatalf("P3.11: %s of %d and %d is %v, not %d", name, m, n, got, want)
		}
	}
	small("Add", integer.Add(x, y), m+n)
	small("Sub", integer.Sub(x, y), m-n)
	small("Mul", integer.Mul(x, y), m*n)
	if m != math.MinInt {
		small("Neg", integer.Neg(x), -m)
	}
	want, sign := 0, 0
	switch {
	case m < n:
		want = -1
	case m > n:
		want = 1
	}
	switch {
	case m < 0:
		sign = -1
	case m > 0:
		sign = 1
	}
	if integer.Compare(x, y) != want || integer.Sign(x) != sign {
		t.Fatalf("P3.11: Compare(%d, %d) or Sign(%d)", m, n, m)
	}
	if m >= 0 && n > 0 {
		q, rest := integer.Div(x, y)
		small("the quotient", q, m/n)
		small("the rest", rest, m%n)
	}
	a, b := max(m, -m), max(n, -n)
	for b != 0 {
		a, b = b, a%b
	}
	if a >= 0 { // not for the least int, whose absolute value is none
		small("Gcd", integer.Gcd(x, y), a)
	}
}
