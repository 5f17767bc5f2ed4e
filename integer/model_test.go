package integer_test

import (
	"fmt"
	"math"
	"math/big"
	"math/rand/v2"
	"slices"
	"testing"

	"sherd/api"
	"sherd/integer"
)

var base = big.NewInt(api.Base)

// value returns what an integer stands for, as the chapter defines it.
func value(x api.Int) *big.Int {
	v := new(big.Int)
	for _, d := range slices.Backward(x.D) {
		v.Add(v.Mul(v, base), big.NewInt(int64(d)))
	}
	if x.Neg {
		v.Neg(v)
	}
	return v
}

// of returns the integer that stands for v, without the package's help.
func of(v *big.Int) api.Int {
	x := api.Int{Neg: v.Sign() < 0}
	rest, digit := new(big.Int).Abs(v), new(big.Int)
	for rest.Sign() > 0 {
		rest.DivMod(rest, base, digit)
		x.D = append(x.D, int(digit.Int64()))
	}
	return x
}

// canonical follows the wording of the chapter: which integers are valid.
func canonical(x api.Int) bool {
	if len(x.D) == 0 {
		return !x.Neg
	}
	if x.D[len(x.D)-1] == 0 {
		return false
	}
	return slices.Min(x.D) >= 0 && slices.Max(x.D) <= 999999999
}

// same reports whether two integers have the same sign and digits.
func same(x, y api.Int) bool { return x.Neg == y.Neg && slices.Equal(x.D, y.D) }

// show is for messages: the text of a model, shortened in the middle.
func show(x any) string {
	s := fmt.Sprint(x)
	if len(s) > 120 {
		s = fmt.Sprintf("%s...%s (%d bytes)", s[:50], s[len(s)-50:], len(s))
	}
	return s
}

// check reports a result that is not valid or does not stand for want.
func check(t *testing.T, promise string, got api.Int, want *big.Int, args ...any) {
	t.Helper()
	if !canonical(got) {
		t.Fatalf("%s: %s: the result is not valid: %s", promise, show(args), show(got))
	}
	if !same(got, of(want)) {
		t.Fatalf("%s: %s: %s, not %s", promise, show(args), show(value(got)), show(want))
	}
}

// power returns b to the power of n.
func power(b int64, n int) *big.Int {
	return new(big.Int).Exp(big.NewInt(b), big.NewInt(int64(n)), nil)
}

// edges returns numbers at which representations change, with their neighbours and negatives, each once.
func edges() []*big.Int {
	var l []*big.Int
	near := func(v *big.Int) {
		for _, d := range []int64{-2, -1, 0, 1, 2} {
			w := new(big.Int).Add(v, big.NewInt(d))
			l = append(l, w, new(big.Int).Neg(w))
		}
	}
	for _, n := range []int64{0, 5, 7, 10, 100, 1000, 999999, api.Base / 2, 123456789, 1 << 31, 1 << 32, 1 << 53, math.MaxInt} {
		near(big.NewInt(n))
	}
	for n := 1; n <= 6; n++ {
		near(power(api.Base, n))
		near(new(big.Int).Mul(power(api.Base, n), big.NewInt(api.Base/2)))
	}
	for _, n := range []int{63, 64, 65, 127, 128, 200, 1000} {
		near(power(2, n))
	}
	near(power(10, 40))
	near(new(big.Int).Mul(power(7, 50), power(10, 30)))
	near(power(api.Base, 40)) // carries and borrows through many digits
	slices.SortFunc(l, (*big.Int).Cmp)
	return slices.CompactFunc(l, func(v, w *big.Int) bool { return v.Cmp(w) == 0 })
}

// integers returns the integers that stand for the edges.
func integers() []api.Int {
	var l []api.Int
	for _, v := range edges() {
		l = append(l, of(v))
	}
	return l
}

// strange are digits at which carries, borrows and guessed quotients change.
var strange = []int{0, 0, 1, 2, api.Base/2 - 1, api.Base / 2, api.Base/2 + 1, api.Base - 2, api.Base - 1, api.Base - 1}

// random returns an integer of at most n digits, many of them strange, with random sign.
func random(r *rand.Rand, n int) api.Int {
	d := make([]int, r.IntN(n+1))
	odd := r.IntN(3) > 0
	for i := range d {
		d[i] = r.IntN(api.Base)
		if odd && r.IntN(4) > 0 {
			d[i] = strange[r.IntN(len(strange))]
		}
	}
	for len(d) > 0 && d[len(d)-1] == 0 {
		d = d[:len(d)-1]
	}
	return api.Int{Neg: len(d) > 0 && r.IntN(2) == 0, D: d}
}

// long returns an integer of n digits.
func long(n int, seed uint64) api.Int {
	r := rand.New(rand.NewPCG(seed, uint64(n)))
	x := api.Int{D: make([]int, n)}
	for i := range x.D {
		x.D[i] = r.IntN(api.Base)
	}
	if n > 0 {
		x.D[n-1] = 1 + r.IntN(api.Base-1)
	}
	return x
}

// number returns the integer of an int, without the package's help.
func number(n int) api.Int { return of(big.NewInt(int64(n))) }

// someInts returns ints at which representations change, from the least to the greatest one.
func someInts() []int {
	var l []int
	for _, v := range edges() {
		if v.IsInt64() {
			l = append(l, int(v.Int64()))
		}
	}
	return append(l, 3, 4, 6, 12, 18, 25, 144, 998001, -12, 3037000499, 3037000500, -3037000499)
}

func TestModel(t *testing.T) {
	for _, x := range integers() {
		if !canonical(x) || !same(of(value(x)), x) {
			t.Fatal("the model contradicts itself at", show(x))
		}
	}
	if n := value(number(math.MinInt)); !n.IsInt64() || n.Int64() != math.MinInt {
		t.Fatal("the model of an int:", n)
	}
	if integer.Sign(number(-3)) != -1 {
		t.Fatal("P3.4: the sign of -3")
	}
}
