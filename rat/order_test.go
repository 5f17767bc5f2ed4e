package rat_test

import (
	"math"
	"math/big"
	"math/rand/v2"
	"testing"

	"sherd/api"
	"sherd/rat"
)

// checkOrder compares what is said about the order of two numbers with the model.
func checkOrder(t *testing.T, v, w *big.Rat) {
	t.Helper()
	a, b := of(v), of(w)
	if got := rat.Compare(a, b); got != v.Cmp(w) {
		t.Fatalf("P4.3: Compare(%s, %s) is %d", show(v), show(w), got)
	}
	if got := rat.Same(a, b); got != (v.Cmp(w) == 0) {
		t.Fatalf("P4.3: Same(%s, %s) is %v", show(v), show(w), got)
	}
	if got := rat.Sign(rat.Sub(a, b)); got != v.Cmp(w) {
		t.Fatalf("P4.10: the sign of the difference of %s and %s is %d", show(v), show(w), got)
	}
	if rat.Sign(a) != v.Sign() {
		t.Fatalf("P4.3: Sign(%s) is %d", show(v), rat.Sign(a))
	}
}

func TestOrder(t *testing.T) {
	l := edges()
	for i, v := range l {
		checkOrder(t, v, v)
		for j := i % 2; j < len(l); j += 2 {
			checkOrder(t, v, l[j])
		}
	}
	l = small(8, 2)
	for _, v := range l {
		for _, w := range l {
			checkOrder(t, v, w)
		}
	}
	r := rand.New(rand.NewPCG(4, 7))
	for range 10000 {
		checkOrder(t, random(r, 5), random(r, 5))
	}
	checkOrder(t, random(r, 600), random(r, 600))
}

// Numbers that differ by very little.
func TestOrderOfNeighbours(t *testing.T) {
	for _, n := range []int{1, 2, 3, 10, 300} {
		q := power(api.Base, n)
		for _, p := range []*big.Int{q, new(big.Int).Mul(q, big.NewInt(3)), power(7, 10*n)} {
			next := new(big.Int).Add(q, big.NewInt(1))
			above := new(big.Int).Add(p, big.NewInt(1))
			for _, v := range []*big.Rat{new(big.Rat).SetFrac(p, q), new(big.Rat).SetFrac(p, next), new(big.Rat).SetFrac(above, q), new(big.Rat).SetFrac(above, next)} {
				for _, w := range []*big.Rat{new(big.Rat).SetFrac(p, q), new(big.Rat).SetFrac(p, next), new(big.Rat).SetFrac(above, q), new(big.Rat).SetFrac(above, next)} {
					checkOrder(t, v, w)
					checkOrder(t, new(big.Rat).Neg(v), w)
					checkOrder(t, new(big.Rat).Neg(v), new(big.Rat).Neg(w))
				}
			}
		}
	}
}

func TestOrderStays(t *testing.T) {
	r := rand.New(rand.NewPCG(4, 8))
	l := edges()
	for k := range 10000 {
		v, w, z := random(r, 4), random(r, 4), random(r, 4)
		if k%2 == 0 {
			v, w = l[r.IntN(len(l))], l[r.IntN(len(l))]
		}
		a, b, c := of(v), of(w), of(z)
		want := v.Cmp(w)
		if rat.Compare(rat.Add(a, c), rat.Add(b, c)) != want {
			t.Fatal("P4.10: the order changes if the same number is added:", show(v), show(w), show(z))
		}
		c = of(z.Abs(z))
		if rat.Sign(c) > 0 && rat.Compare(rat.Mul(a, c), rat.Mul(b, c)) != want {
			t.Fatal("P4.10: the order changes by a positive factor:", show(v), show(w), show(z))
		}
		if rat.Compare(a, b) != want || rat.Compare(b, a) != -want || rat.Compare(rat.Neg(b), rat.Neg(a)) != want {
			t.Fatal("P4.10: the order of", show(v), show(w))
		}
	}
}

// checkRound compares the integers next to a number with the wording of P4.4.
func checkRound(t *testing.T, v *big.Rat) {
	t.Helper()
	a := of(v)
	below := new(big.Int).Div(v.Num(), v.Denom()) // Euclidean: rounds down, since denominators are positive
	above := new(big.Int).Set(below)
	if !v.IsInt() {
		above.Add(above, big.NewInt(1))
	}
	if got := rat.Floor(a); !sameInt(got, whole(below)) {
		t.Fatalf("P4.4: Floor(%s) is %s", show(v), show(got))
	}
	if got := rat.Ceil(a); !sameInt(got, whole(above)) {
		t.Fatalf("P4.4: Ceil(%s) is %s", show(v), show(got))
	}
	want, ok := 0, v.IsInt() && v.Num().IsInt64()
	if ok {
		want = int(v.Num().Int64())
	}
	if n, is := rat.Whole(a); n != want || is != ok {
		t.Fatalf("P4.4: Whole(%s) is %d, %v", show(v), n, is)
	}
}

func TestRounding(t *testing.T) {
	for _, v := range append(edges(), small(9, 4)...) {
		checkRound(t, v)
	}
	for _, n := range someInts() {
		for _, d := range []int64{-1, 0, 1} {
			v := new(big.Int).Add(big.NewInt(int64(n)), big.NewInt(d))
			checkRound(t, new(big.Rat).SetInt(v))
			checkRound(t, new(big.Rat).SetFrac(v, big.NewInt(2)))
			checkRound(t, new(big.Rat).SetFrac(v, power(2, 64)))
		}
	}
	r := rand.New(rand.NewPCG(4, 9))
	for range 20000 {
		checkRound(t, random(r, 6))
	}
	checkRound(t, random(r, 700))
}

func TestKnownRounding(t *testing.T) {
	for _, x := range []struct {
		a           api.Rat
		floor, ceil api.Int
		n           int
		ok          bool
	}{
		{rat.Of(-3, 4), neg(1), num(), 0, false},
		{rat.Of(3, 4), num(), num(1), 0, false},
		{rat.Of(-7, 2), neg(4), neg(3), 0, false},
		{rat.Of(7, 2), num(3), num(4), 0, false},
		{rat.Of(-4, 2), neg(2), neg(2), -2, true},
		{api.Rat{}, num(), num(), 0, true},
		{rat.Of(1999999999, 2), num(999999999), num(0, 1), 0, false},
		{rat.Of(-1999999999, 2), neg(0, 1), neg(999999999), 0, false},
		{rat.Of(math.MaxInt, 1), num(854775807, 223372036, 9), num(854775807, 223372036, 9), math.MaxInt, true},
		{rat.Of(math.MinInt, 1), neg(854775808, 223372036, 9), neg(854775808, 223372036, 9), math.MinInt, true},
		{rat.Of(math.MinInt, -1), num(854775808, 223372036, 9), num(854775808, 223372036, 9), 0, false}, // 2^63 is no int
		{rat.Of(1, math.MinInt), neg(1), num(), 0, false},
		{rat.Of(1, math.MaxInt), num(), num(1), 0, false},
	} {
		n, ok := rat.Whole(x.a)
		if floor, ceil := rat.Floor(x.a), rat.Ceil(x.a); !sameInt(floor, x.floor) || !sameInt(ceil, x.ceil) || n != x.n || ok != x.ok {
			t.Errorf("P4.4: %v: Floor is %v, Ceil %v, Whole %d, %v", x.a, floor, ceil, n, ok)
		}
	}
}
