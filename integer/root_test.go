package integer_test

import (
	"math"
	"math/big"
	"math/rand/v2"
	"testing"

	"sherd/api"
	"sherd/integer"
)

// checkRoot compares a root with the wording of P3.5.
func checkRoot(t *testing.T, v *big.Int) {
	t.Helper()
	got, exact := integer.Root(of(v))
	if v.Sign() < 0 {
		if !same(got, api.Int{}) || exact {
			t.Fatalf("P3.5: Root(%s) is %v, %v", show(v), got, exact)
		}
		return
	}
	want := new(big.Int).Sqrt(v)
	check(t, "P3.5", got, want, "Root", v)
	if exact != (new(big.Int).Mul(want, want).Cmp(v) == 0) {
		t.Fatalf("P3.5: Root(%s) is exact: %v", show(v), exact)
	}
}

// checkSquare compares the roots of the square of v and of its neighbours.
func checkSquare(t *testing.T, v *big.Int) {
	t.Helper()
	square := new(big.Int).Mul(v, v)
	for _, d := range []int64{-2, -1, 0, 1, 2} {
		checkRoot(t, new(big.Int).Add(square, big.NewInt(d)))
	}
	checkRoot(t, square.Add(square, v)) // between two squares
	checkRoot(t, square.Add(square, v)) // just below the next square
	got, exact := integer.Root(of(new(big.Int).Mul(v, v)))
	if !same(got, of(new(big.Int).Abs(v))) || !exact {
		t.Fatalf("P3.5: the root of the square of %s is %s, exact: %v", show(v), show(got), exact)
	}
}

func TestKnownRoots(t *testing.T) {
	for _, x := range []struct {
		x, root int
		exact   bool
	}{
		{0, 0, true}, {1, 1, true}, {2, 1, false}, {3, 1, false}, {4, 2, true}, {8, 2, false}, {9, 3, true}, {10, 3, false},
		{-1, 0, false}, {-4, 0, false}, {math.MinInt, 0, false},
		{999999999, 31622, false}, {1000000000, 31622, false},
		{999999999999999999, 999999999, false}, {1000000000000000000, 1000000000, true}, {1000000000000000001, 1000000000, false},
		{math.MaxInt, 3037000499, false}, {9223372030926249001, 3037000499, true}, {9223372030926249000, 3037000498, false},
	} {
		root, exact := integer.Root(integer.Of(x.x))
		if !same(root, number(x.root)) || exact != x.exact {
			t.Errorf("P3.5: Root(%d) is %v, %v", x.x, root, exact)
		}
	}
}

func TestRoots(t *testing.T) {
	for n := int64(-100); n < 20000; n++ {
		checkRoot(t, big.NewInt(n))
	}
	for _, v := range edges() {
		checkRoot(t, v)
		checkSquare(t, v)
	}
}

func TestRootsOfRandomNumbers(t *testing.T) {
	r := rand.New(rand.NewPCG(3, 8))
	for range 20000 {
		v := value(random(r, 1+r.IntN(12)))
		checkRoot(t, v)
		checkSquare(t, v)
	}
}

// Squares of 1 and zeros, and of digits 999999999 only, have roots that are hard to come near to.
func TestRootsOfEveryLength(t *testing.T) {
	for n := range 60 {
		v := power(api.Base, n)
		checkSquare(t, v)
		checkSquare(t, new(big.Int).Sub(v, big.NewInt(1)))
		checkSquare(t, new(big.Int).Add(v, big.NewInt(1)))
		checkSquare(t, value(long(n, 14)))
		checkRoot(t, value(long(n, 15)))
		checkRoot(t, v)
		checkRoot(t, new(big.Int).Sub(v, big.NewInt(1)))
	}
	for n := range 700 {
		checkSquare(t, power(2, n))
	}
}

func TestRootsOfManyDigits(t *testing.T) {
	for _, n := range []int{500, 1001, 7282} {
		checkRoot(t, value(long(n, 16)))
		checkRoot(t, power(api.Base, n))
	}
	v := value(long(2000, 17))
	square := new(big.Int).Mul(v, v)
	checkRoot(t, square)
	checkRoot(t, square.Sub(square, big.NewInt(1)))
}
