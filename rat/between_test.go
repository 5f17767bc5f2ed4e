package rat_test

import (
	"math"
	"math/big"
	"math/rand/v2"
	"runtime/debug"
	"testing"

	"sherd/api"
	"sherd/rat"
)

// least follows the wording of the chapter for intervals with small denominators: it looks at one denominator after the other.
func least(lo, hi *big.Rat) *big.Rat {
	for q := int64(1); ; q++ {
		scale := big.NewRat(q, 1)
		below, above := new(big.Rat).Mul(lo, scale), new(big.Rat).Mul(hi, scale)
		first := new(big.Int).Neg(new(big.Int).Div(new(big.Int).Neg(below.Num()), below.Denom())) // rounded up
		last := new(big.Int).Div(above.Num(), above.Denom())                                      // rounded down
		switch {
		case first.Cmp(last) > 0:
		case first.Sign() > 0:
			return new(big.Rat).SetFrac(first, big.NewInt(q))
		case last.Sign() < 0:
			return new(big.Rat).SetFrac(last, big.NewInt(q))
		default:
			return new(big.Rat)
		}
	}
}

// parents returns, for a positive number that is not whole, the next smaller and the next greater number whose denominators are at most its own.
func parents(v *big.Rat) (*big.Rat, *big.Rat) {
	p, q := v.Num(), v.Denom()
	below := new(big.Int).ModInverse(p, q) // b with p * b - a * q = 1, where a / b is the smaller one
	above := new(big.Int).Sub(q, below)
	a := new(big.Int).Mul(p, below)
	a.Div(a.Sub(a, big.NewInt(1)), q)
	return new(big.Rat).SetFrac(a, below), new(big.Rat).SetFrac(new(big.Int).Sub(p, a), above)
}

// checkLeast checks a result for numbers of any length without looking for a better one.
func checkLeast(t *testing.T, lo, hi *big.Rat) api.Rat {
	t.Helper()
	got, e := rat.Between(of(lo), of(hi))
	if e != api.OK || !canonical(got) {
		t.Fatalf("P4.6: Between(%s, %s) is %s, %d", show(lo), show(hi), show(got), e)
	}
	v := value(got)
	if v.Cmp(lo) < 0 || v.Cmp(hi) > 0 {
		t.Fatalf("P4.6: Between(%s, %s) is %s, which is outside", show(lo), show(hi), show(v))
	}
	if lo.Sign() <= 0 && hi.Sign() >= 0 {
		check(t, "P4.6", got, new(big.Rat), "Between", lo, hi)
		return got
	}
	w := new(big.Rat).Abs(v)
	near, far := lo, hi
	if v.Sign() < 0 {
		near, far = new(big.Rat).Neg(hi), new(big.Rat).Neg(lo)
	}
	if w.IsInt() {
		if w.Sub(w, big.NewRat(1, 1)).Cmp(near) >= 0 {
			t.Fatalf("P4.6: Between(%s, %s) is %s: there is a whole number nearer to 0", show(lo), show(hi), show(v))
		}
		return got
	}
	below, above := parents(w)
	if below.Cmp(near) >= 0 || above.Cmp(far) <= 0 {
		t.Fatalf("P4.11: Between(%s, %s) is %s: there is a lesser denominator", show(lo), show(hi), show(v))
	}
	return got
}

func TestKnownIntervals(t *testing.T) {
	for _, x := range []struct{ lo, hi, want api.Rat }{
		{rat.Of(1, 3), rat.Of(2, 5), rat.Of(1, 3)},
		{rat.Of(3, 10), rat.Of(2, 5), rat.Of(1, 3)},
		{rat.Of(-5, 2), rat.Of(-3, 2), rat.Of(-2, 1)},
		{rat.Of(-1, 2), rat.Of(3, 1), api.Rat{}},
		{api.Rat{}, api.Rat{}, api.Rat{}},
		{api.Rat{}, rat.Of(1, 2), api.Rat{}},
		{rat.Of(-1, 2), api.Rat{}, api.Rat{}},
		{rat.Of(-1, 2), rat.Of(1, 2), api.Rat{}},
		{rat.Of(2, 5), rat.Of(2, 5), rat.Of(2, 5)},
		{rat.Of(-2, 5), rat.Of(-2, 5), rat.Of(-2, 5)},
		{rat.Of(7, 1), rat.Of(7, 1), rat.Of(7, 1)},
		{rat.Of(2, 1), rat.Of(9, 1), rat.Of(2, 1)},
		{rat.Of(-9, 1), rat.Of(-2, 1), rat.Of(-2, 1)},
		{rat.Of(3, 2), rat.Of(9, 2), rat.Of(2, 1)},
		{rat.Of(-9, 2), rat.Of(-3, 2), rat.Of(-2, 1)},
		{rat.Of(3, 2), rat.Of(2, 1), rat.Of(2, 1)},
		{rat.Of(-2, 1), rat.Of(-3, 2), rat.Of(-2, 1)},
		{rat.Of(1, 2), rat.Of(1, 1), rat.Of(1, 1)},
		{rat.Of(1, 3), rat.Of(1, 2), rat.Of(1, 2)},
		{rat.Of(-1, 2), rat.Of(-1, 3), rat.Of(-1, 2)},
		{rat.Of(1, 4), rat.Of(3, 4), rat.Of(1, 2)},
		{rat.Of(-2, 5), rat.Of(-3, 10), rat.Of(-1, 3)},
		{rat.Of(31, 10), rat.Of(32, 10), rat.Of(16, 5)},
		{rat.Of(314, 100), rat.Of(315, 100), rat.Of(22, 7)},
		{rat.Of(31415926, 10000000), rat.Of(31415927, 10000000), rat.Of(86953, 27678)},
		{rat.Of(314159, 100000), rat.Of(314160, 100000), rat.Of(355, 113)},
		{rat.Of(1, math.MaxInt), rat.Of(1, math.MaxInt-1), rat.Of(1, math.MaxInt-1)},
		{rat.Of(1, math.MinInt), rat.Of(1, math.MaxInt), api.Rat{}},
		{rat.Of(math.MinInt, 1), rat.Of(math.MinInt+1, 1), rat.Of(math.MinInt+1, 1)},
		{rat.Of(math.MaxInt-1, 1), rat.Of(math.MaxInt, 1), rat.Of(math.MaxInt-1, 1)},
	} {
		if got, e := rat.Between(x.lo, x.hi); !identical(got, x.want) || e != api.OK {
			t.Errorf("P4.6: Between(%s, %s) is %s, %d", value(x.lo), value(x.hi), show(got), e)
		}
	}
}

func TestEndsInTheWrongOrder(t *testing.T) {
	l := numbers()
	for i := range l {
		for j := range i {
			if got, e := rat.Between(l[i], l[j]); e != api.ErrArg || !identical(got, api.Rat{}) {
				t.Fatalf("P4.6: Between(%s, %s) is %s, %d", show(value(l[i])), show(value(l[j])), show(got), e)
			}
		}
	}
	near := new(big.Rat).SetFrac(power(10, 900), power(3, 900))
	next := new(big.Rat).Add(near, new(big.Rat).SetFrac(big.NewInt(1), power(7, 2000)))
	if got, e := rat.Between(of(next), of(near)); e != api.ErrArg || !identical(got, api.Rat{}) {
		t.Fatal("P4.6: ends of many digits in the wrong order:", show(got), e)
	}
}

func TestSmallIntervals(t *testing.T) {
	l := small(9, 2)
	for i, lo := range l {
		for _, hi := range l[i:] {
			got := checkLeast(t, lo, hi)
			check(t, "P4.6", got, least(lo, hi), "Between", lo, hi)
		}
	}
	r := rand.New(rand.NewPCG(4, 10))
	for range 20000 {
		lo := big.NewRat(int64(r.IntN(4000)-2000), int64(1+r.IntN(300)))
		hi := new(big.Rat).Add(lo, big.NewRat(int64(1+r.IntN(20)), int64(1+r.IntN(2000))))
		check(t, "P4.6", checkLeast(t, lo, hi), least(lo, hi), "Between", lo, hi)
	}
}

func TestIntervalOfOneNumber(t *testing.T) {
	for _, v := range append(edges(), small(12, 3)...) {
		got, e := rat.Between(of(v), of(v))
		if e != api.OK {
			t.Fatalf("P4.6: Between(%s, %s): the error is %d", show(v), show(v), e)
		}
		check(t, "P4.11", got, v, "Between of a number and itself", v)
	}
}

func TestAnyIntervals(t *testing.T) {
	l := edges()
	for i := range l {
		for _, j := range []int{i, i + 1, i + 2, i + 5, 2*len(l)/3 + i/3, len(l) - 1} {
			if j >= i && j < len(l) {
				checkLeast(t, l[i], l[j])
			}
		}
	}
	r := rand.New(rand.NewPCG(4, 11))
	for range 5000 {
		lo, hi := random(r, 5), random(r, 5)
		if lo.Cmp(hi) > 0 {
			lo, hi = hi, lo
		}
		checkLeast(t, lo, hi)
		// A number that is near lo, on the same side of 0 in most cases.
		hi = new(big.Rat).Add(lo, new(big.Rat).SetFrac(big.NewInt(int64(1+r.IntN(9))), power(10, r.IntN(60))))
		checkLeast(t, lo, hi)
	}
}

// neighbours returns lo and hi, whose continued fractions have about n quotients, none of which is more than 2, and the one of them that has the lesser denominator.
func neighbours(n int) (want, lo, hi *big.Rat) {
	a, b := big.NewInt(1), big.NewInt(1)
	for range n {
		a, b = b, new(big.Int).Add(a, b)
	}
	want = new(big.Rat).SetFrac(b, a)
	other := new(big.Rat).SetFrac(new(big.Int).Add(a, b), b)
	if want.Cmp(other) > 0 {
		return want, other, want
	}
	return want, want, other
}

// P1: the stack that a call needs does not grow with its numbers. A call that needs more than is left here ends the program.
func TestIntervalsOfManyDigitsAreNotDeep(t *testing.T) {
	want, lo, hi := neighbours(10000)
	a, b := of(lo), of(hi)
	defer debug.SetMaxStack(debug.SetMaxStack(1 << 20))
	got, e := rat.Between(a, b)
	if e != api.OK {
		t.Fatal("P4.6: the error is", e)
	}
	check(t, "P1", got, want, "Between of neighbours")
}

func TestIntervalsOfManyDigits(t *testing.T) {
	want, lo, hi := neighbours(3000)
	check(t, "P4.6", checkLeast(t, lo, hi), want, "Between of neighbours")
	less, more := new(big.Rat).Neg(hi), new(big.Rat).Neg(lo)
	check(t, "P4.6", checkLeast(t, less, more), new(big.Rat).Neg(want), "Between of neighbours below 0")
	r := rand.New(rand.NewPCG(4, 12))
	for _, n := range []int{20, 60, 150} {
		v := new(big.Rat).SetFrac(digits(r, n), digits(r, n-3))
		for _, d := range []int{1, 5 * n, 9 * n, 20 * n} {
			checkLeast(t, v, new(big.Rat).Add(v, new(big.Rat).SetFrac(big.NewInt(1), power(10, d))))
		}
	}
}

func TestPartsOfIntervals(t *testing.T) {
	r := rand.New(rand.NewPCG(4, 13))
	for range 5000 {
		lo, hi := random(r, 3), random(r, 3)
		if r.IntN(2) == 0 {
			hi = new(big.Rat).Add(lo, big.NewRat(1, int64(1+r.IntN(1000000000))))
		}
		if lo.Cmp(hi) > 0 {
			lo, hi = hi, lo
		}
		got, _ := rat.Between(of(lo), of(hi))
		v := value(got)
		for range 3 {
			part := new(big.Rat).Sub(v, lo)
			less := new(big.Rat).Sub(v, part.Mul(part, big.NewRat(int64(r.IntN(8)), 7)))
			part = new(big.Rat).Sub(hi, v)
			more := new(big.Rat).Add(v, part.Mul(part, big.NewRat(int64(r.IntN(8)), 7)))
			if again, e := rat.Between(of(less), of(more)); e != api.OK || !identical(again, got) {
				t.Fatalf("P4.11: Between(%s, %s) is %s, but within it Between(%s, %s) is %s, %d", lo, hi, v, less, more, show(again), e)
			}
		}
	}
}
