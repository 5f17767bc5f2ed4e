package integer_test

import (
	"math"
	"math/big"
	"testing"

	"sherd/api"
	"sherd/integer"
)

func TestOf(t *testing.T) {
	for _, x := range []struct {
		n   int
		neg bool
		d   []int
	}{
		{0, false, nil},
		{1, false, []int{1}},
		{-1, true, []int{1}},
		{-5, true, []int{5}},
		{999999999, false, []int{999999999}},
		{1000000000, false, []int{0, 1}},
		{-1000000001, true, []int{1, 1}},
		{999999999999999999, false, []int{999999999, 999999999}},
		{1000000000000000000, false, []int{0, 0, 1}},
		{math.MaxInt, false, []int{854775807, 223372036, 9}},
		{math.MinInt, true, []int{854775808, 223372036, 9}},
	} {
		if got := integer.Of(x.n); !same(got, api.Int{Neg: x.neg, D: x.d}) {
			t.Errorf("P3.1: Of(%d) is %v", x.n, got)
		}
	}
	for _, n := range someInts() {
		check(t, "P3.1", integer.Of(n), big.NewInt(int64(n)), "Of", n)
	}
	for n := -3000; n <= 3000; n++ {
		check(t, "P3.1", integer.Of(n), big.NewInt(int64(n)), "Of", n)
	}
}

func TestSmall(t *testing.T) {
	for _, v := range edges() {
		n, ok := integer.Small(of(v))
		want := 0
		if v.IsInt64() {
			want = int(v.Int64())
		}
		if n != want || ok != v.IsInt64() {
			t.Errorf("P3.1: Small(%s) is %d, %v", show(v), n, ok)
		}
	}
	for _, n := range someInts() {
		if got, ok := integer.Small(integer.Of(n)); got != n || !ok {
			t.Errorf("P3.1: Small(Of(%d)) is %d, %v", n, got, ok)
		}
	}
}

func TestSmallAtTheEndsOfInt(t *testing.T) {
	for _, x := range []struct {
		x  api.Int
		n  int
		ok bool
	}{
		{api.Int{}, 0, true},
		{api.Int{D: []int{854775807, 223372036, 9}}, math.MaxInt, true},
		{api.Int{D: []int{854775808, 223372036, 9}}, 0, false},
		{api.Int{Neg: true, D: []int{854775807, 223372036, 9}}, -math.MaxInt, true},
		{api.Int{Neg: true, D: []int{854775808, 223372036, 9}}, math.MinInt, true},
		{api.Int{Neg: true, D: []int{854775809, 223372036, 9}}, 0, false},
		{api.Int{D: []int{999999999, 999999999, 9}}, 0, false},
		{api.Int{D: []int{0, 0, 10}}, 0, false},
		{api.Int{D: []int{709551616, 446744073, 18}}, 0, false},            // 2^64, which wraps around to 0
		{api.Int{D: []int{709551617, 446744073, 18}}, 0, false},            // and to 1
		{api.Int{Neg: true, D: []int{709551617, 446744073, 18}}, 0, false}, // and to -1
		{api.Int{D: []int{999999999, 999999999, 999999999}}, 0, false},
		{api.Int{D: []int{0, 0, 0, 1}}, 0, false},
		{api.Int{D: []int{1, 0, 0, 0, 0, 0, 0, 1}}, 0, false},
		{api.Int{Neg: true, D: []int{0, 0, 0, 1}}, 0, false},
	} {
		if n, ok := integer.Small(x.x); n != x.n || ok != x.ok {
			t.Errorf("P3.1: Small(%v) is %d, %v", x.x, n, ok)
		}
	}
	for k := 64; k < 640; k++ { // multiples of 2^64 wrap around to 0
		for _, d := range []int64{-1, 0, 1} {
			v := new(big.Int).Add(power(2, k), big.NewInt(d))
			for _, x := range []api.Int{of(v), of(v.Neg(v))} {
				if n, ok := integer.Small(x); n != 0 || ok {
					t.Errorf("P3.1: Small of 2^%d + %d or its negative is %d, %v", k, d, n, ok)
				}
			}
		}
	}
}

func TestValid(t *testing.T) {
	for _, x := range []struct {
		x  api.Int
		ok bool
	}{
		{api.Int{}, true},
		{api.Int{D: []int{}}, true},
		{api.Int{Neg: true}, false},
		{api.Int{Neg: true, D: []int{}}, false},
		{api.Int{D: []int{0}}, false},
		{api.Int{Neg: true, D: []int{0}}, false},
		{api.Int{D: []int{0, 1}}, true},
		{api.Int{D: []int{1, 0}}, false},
		{api.Int{D: []int{0, 0, 0}}, false},
		{api.Int{D: []int{999999999}}, true},
		{api.Int{D: []int{1000000000}}, false},
		{api.Int{D: []int{-1}}, false},
		{api.Int{D: []int{-1, 1}}, false},
		{api.Int{D: []int{1000000000, 1}}, false},
		{api.Int{Neg: true, D: []int{1, 1000000000, 1}}, false},
		{api.Int{D: []int{math.MinInt}}, false},
		{api.Int{D: []int{math.MaxInt}}, false},
		{api.Int{D: []int{math.MinInt, math.MaxInt, 1}}, false},
	} {
		if integer.Valid(x.x) != x.ok {
			t.Errorf("P3.1: Valid(%v) is not %v", x.x, x.ok)
		}
	}
}

// eachList calls f with each list of at most n of the given numbers.
func eachList(n int, of []int, f func([]int)) {
	var extend func([]int)
	extend = func(l []int) {
		f(l)
		if len(l) < n {
			for _, d := range of {
				extend(append(l[:len(l):len(l)], d))
			}
		}
	}
	extend(nil)
}

func TestValidOnManyLists(t *testing.T) {
	eachList(4, []int{0, 1, 999999999, 1000000000, -1, math.MinInt, math.MaxInt}, func(l []int) {
		for _, neg := range []bool{false, true} {
			x := api.Int{Neg: neg, D: l}
			if integer.Valid(x) != canonical(x) {
				t.Errorf("P3.1: Valid(%v) is not %v", x, canonical(x))
			}
		}
	})
	for _, n := range []int{10, 100, 1000} {
		x := long(n, 1)
		for i := range x.D {
			for _, d := range []int{-1, 1000000000} {
				keep := x.D[i]
				x.D[i] = d
				if integer.Valid(x) {
					t.Errorf("P3.1: %d is valid as digit %d of %d", d, i, n)
				}
				x.D[i] = keep
			}
		}
		if !integer.Valid(x) {
			t.Errorf("P3.1: an integer of %d digits is not valid", n)
		}
	}
}

func TestCompare(t *testing.T) {
	l := edges()
	for _, v := range l {
		x := of(v)
		if got := integer.Sign(x); got != v.Sign() {
			t.Errorf("P3.4: Sign(%s) is %d", show(v), got)
		}
		for _, w := range l {
			if got := integer.Compare(x, of(w)); got != v.Cmp(w) {
				t.Fatalf("P3.4: Compare(%s, %s) is %d", show(v), show(w), got)
			}
		}
	}
	// Numbers that differ in one digit only, which is not the last one.
	x := long(30, 2)
	for i := range x.D {
		y := api.Int{D: append([]int(nil), x.D...)}
		y.D[i] = (y.D[i] + 1) % (api.Base - 1)
		want := value(x).Cmp(value(y))
		if integer.Compare(x, y) != want || integer.Compare(y, x) != -want || integer.Compare(integer.Neg(x), integer.Neg(y)) != -want {
			t.Errorf("P3.4: a difference in digit %d", i)
		}
	}
}

func TestCompareIsAnOrder(t *testing.T) {
	l := integers() // in rising order
	for i := range l {
		for j := range l {
			want := 0
			if i != j {
				want = 1
			}
			if i < j {
				want = -1
			}
			if got := integer.Compare(l[i], l[j]); got != want {
				t.Fatalf("P3.4: Compare(%s, %s) is %d", show(l[i]), show(l[j]), got)
			}
		}
	}
}

func TestNeg(t *testing.T) {
	for _, v := range edges() {
		check(t, "P3.2", integer.Neg(of(v)), new(big.Int).Neg(v), "Neg", v)
		if x := of(v); !same(integer.Neg(integer.Neg(x)), x) {
			t.Errorf("P3.2: Neg of Neg of %s", show(v))
		}
	}
	if x := integer.Neg(api.Int{D: []int{}}); x.Neg || len(x.D) > 0 {
		t.Errorf("P3.2: -0 is %v", x)
	}
}
