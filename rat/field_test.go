package rat_test

import (
	"math/big"
	"math/rand/v2"
	"testing"

	"sherd/api"
	"sherd/rat"
)

// checkField compares sums, differences, products and quotients with the model.
func checkField(t *testing.T, v, w *big.Rat) {
	t.Helper()
	a, b := of(v), of(w)
	check(t, "P4.2", rat.Add(a, b), new(big.Rat).Add(v, w), "Add", v, w)
	check(t, "P4.2", rat.Sub(a, b), new(big.Rat).Sub(v, w), "Sub", v, w)
	check(t, "P4.2", rat.Mul(a, b), new(big.Rat).Mul(v, w), "Mul", v, w)
	over := new(big.Rat)
	if w.Sign() != 0 {
		over.Quo(v, w)
	}
	check(t, "P4.2", rat.Div(a, b), over, "Div", v, w)
}

func TestKnownResults(t *testing.T) {
	half, third, zero := rat.Of(1, 2), rat.Of(1, 3), api.Rat{}
	for _, x := range []struct {
		name string
		got  api.Rat
		want api.Rat
	}{
		{"1/2 + 1/3", rat.Add(half, third), api.Rat{P: num(5), Q: num(6)}},
		{"1/2 - 1/3", rat.Sub(half, third), api.Rat{P: num(1), Q: num(6)}},
		{"1/3 - 1/2", rat.Sub(third, half), api.Rat{P: neg(1), Q: num(6)}},
		{"1/2 * 1/3", rat.Mul(half, third), api.Rat{P: num(1), Q: num(6)}},
		{"1/2 / 1/3", rat.Div(half, third), api.Rat{P: num(3), Q: num(2)}},
		{"1/2 + 1/2", rat.Add(half, half), api.Rat{P: num(1)}},
		{"1/2 - 1/2", rat.Sub(half, half), zero},
		{"1/2 / 1/2", rat.Div(half, half), api.Rat{P: num(1)}},
		{"1/2 / -1/2", rat.Div(half, rat.Neg(half)), api.Rat{P: neg(1)}},
		{"-1/2 / -1/3", rat.Div(rat.Neg(half), rat.Neg(third)), api.Rat{P: num(3), Q: num(2)}},
		{"1/2 / 0", rat.Div(half, zero), zero},
		{"0 / 0", rat.Div(zero, zero), zero},
		{"0 / -1/3", rat.Div(zero, rat.Neg(third)), zero},
		{"0 * 1/3", rat.Mul(zero, third), zero},
		{"-0", rat.Neg(zero), zero},
		{"-1/2", rat.Neg(half), api.Rat{P: neg(1), Q: num(2)}},
		{"1/6 + 1/10", rat.Add(rat.Of(1, 6), rat.Of(1, 10)), api.Rat{P: num(4), Q: num(15)}},
		{"1/6 + 1/3", rat.Add(rat.Of(1, 6), third), api.Rat{P: num(1), Q: num(2)}},
		{"1/6 + 5/6", rat.Add(rat.Of(1, 6), rat.Of(5, 6)), api.Rat{P: num(1)}},
		{"4/9 * 3/8", rat.Mul(rat.Of(4, 9), rat.Of(3, 8)), api.Rat{P: num(1), Q: num(6)}},
		{"2/3 * 3/2", rat.Mul(rat.Of(2, 3), rat.Of(3, 2)), api.Rat{P: num(1)}},
		{"1 / 1000000000", rat.Div(rat.Of(1, 1), rat.Of(1000000000, 1)), api.Rat{P: num(1), Q: num(0, 1)}},
	} {
		if !identical(x.got, x.want) {
			t.Errorf("P4.2: %s is %v", x.name, x.got)
		}
	}
}

func TestFieldAtEdges(t *testing.T) {
	l := edges()
	for _, v := range l {
		check(t, "P4.2", rat.Neg(of(v)), new(big.Rat).Neg(v), "Neg", v)
	}
	for i, v := range l {
		for j := i % 3; j < len(l); j += 3 {
			checkField(t, v, l[j])
		}
	}
}

func TestFieldOfSmallNumbers(t *testing.T) {
	l := small(7, 2)
	for _, v := range l {
		check(t, "P4.2", rat.Neg(of(v)), new(big.Rat).Neg(v), "Neg", v)
		for _, w := range l {
			checkField(t, v, w)
		}
	}
}

func TestFieldOfRandomNumbers(t *testing.T) {
	r := rand.New(rand.NewPCG(4, 3))
	for range 20000 {
		checkField(t, random(r, 5), random(r, 5))
	}
	for range 50 {
		checkField(t, random(r, 100), random(r, 100))
	}
	v, w := random(r, 500), random(r, 600)
	checkField(t, v, w)
	checkField(t, v, new(big.Rat).Neg(v))
	checkField(t, v, v)
}

// Denominators that have much in common with each other, and with the sum.
func TestFieldWithCommonDivisors(t *testing.T) {
	r := rand.New(rand.NewPCG(4, 4))
	prime := []int64{2, 3, 5, 7, 11, 1000000007, 998244353}
	some := func() *big.Int {
		v := big.NewInt(1)
		for range r.IntN(12) {
			v.Mul(v, big.NewInt(prime[r.IntN(len(prime))]))
		}
		return v
	}
	for range 20000 {
		checkField(t, new(big.Rat).SetFrac(some(), some()), new(big.Rat).SetFrac(new(big.Int).Neg(some()), some()))
	}
}

func TestFieldLaws(t *testing.T) {
	r := rand.New(rand.NewPCG(4, 5))
	l := edges()
	for k := range 10000 {
		a, b, c := of(random(r, 4)), of(random(r, 4)), of(random(r, 4))
		if k%2 == 0 {
			a, b = of(l[r.IntN(len(l))]), of(l[r.IntN(len(l))])
		}
		if !identical(rat.Add(a, b), rat.Add(b, a)) || !identical(rat.Mul(a, b), rat.Mul(b, a)) {
			t.Fatal("P4.9: not commutative:", show(a), show(b))
		}
		if !identical(rat.Add(rat.Add(a, b), c), rat.Add(a, rat.Add(b, c))) {
			t.Fatal("P4.9: Add is not associative:", show(a), show(b), show(c))
		}
		if !identical(rat.Mul(rat.Mul(a, b), c), rat.Mul(a, rat.Mul(b, c))) {
			t.Fatal("P4.9: Mul is not associative:", show(a), show(b), show(c))
		}
		if !identical(rat.Mul(a, rat.Add(b, c)), rat.Add(rat.Mul(a, b), rat.Mul(a, c))) {
			t.Fatal("P4.9: not distributive:", show(a), show(b), show(c))
		}
		if !identical(rat.Sub(rat.Add(a, b), b), a) || !identical(rat.Add(rat.Sub(a, b), b), a) {
			t.Fatal("P4.9: Sub does not undo Add:", show(a), show(b))
		}
		if rat.Sign(b) != 0 && (!identical(rat.Div(rat.Mul(a, b), b), a) || !identical(rat.Mul(rat.Div(a, b), b), a)) {
			t.Fatal("P4.9: Div does not undo Mul:", show(a), show(b))
		}
		if !identical(rat.Sub(a, b), rat.Add(a, rat.Neg(b))) || !identical(rat.Neg(rat.Neg(a)), a) {
			t.Fatal("P4.2: Sub is not Add of the negative:", show(a), show(b))
		}
	}
}

// dot is the model of Dot.
func dot(a, b []*big.Rat) *big.Rat {
	sum := new(big.Rat)
	for i := range min(len(a), len(b)) {
		sum.Add(sum, new(big.Rat).Mul(a[i], b[i]))
	}
	return sum
}

// list returns the numbers that stand for models.
func list(l []*big.Rat) []api.Rat {
	var a []api.Rat
	for _, v := range l {
		a = append(a, of(v))
	}
	return a
}

func TestDot(t *testing.T) {
	r := rand.New(rand.NewPCG(4, 6))
	var all []*big.Rat
	for range 40 {
		all = append(all, random(r, 3))
	}
	for m := range 12 {
		for n := range 12 {
			a, b := all[m:2*m], all[30-n:30]
			check(t, "P4.5", rat.Dot(list(a), list(b)), dot(a, b), "Dot", a, b)
		}
	}
	check(t, "P4.5", rat.Dot(list(all), list(all)), dot(all, all), "Dot of a list and itself")
	many := small(16, 10)
	check(t, "P4.5", rat.Dot(list(many), list(many)), dot(many, many), "Dot of many numbers")
	check(t, "P4.5", rat.Dot(list(many), list(all)), dot(many, all), "Dot of many numbers and fewer")
}

func TestKnownDots(t *testing.T) {
	one, half, third := rat.Of(1, 1), rat.Of(1, 2), rat.Of(1, 3)
	for _, x := range []struct {
		a, b []api.Rat
		want api.Rat
	}{
		{nil, nil, api.Rat{}},
		{[]api.Rat{}, nil, api.Rat{}},
		{nil, []api.Rat{half}, api.Rat{}},
		{[]api.Rat{half}, []api.Rat{}, api.Rat{}},
		{[]api.Rat{half}, []api.Rat{third}, rat.Of(1, 6)},
		{[]api.Rat{half, third}, []api.Rat{third}, rat.Of(1, 6)},
		{[]api.Rat{half}, []api.Rat{third, one}, rat.Of(1, 6)},
		{[]api.Rat{half, third}, []api.Rat{third, half}, third},
		{[]api.Rat{half, third, one}, []api.Rat{third, half, rat.Of(-1, 3)}, api.Rat{}},
		{[]api.Rat{rat.Of(3, 1), rat.Of(4, 1)}, []api.Rat{rat.Of(3, 1), rat.Of(4, 1)}, rat.Of(25, 1)},
		{[]api.Rat{{}, {}}, []api.Rat{half, third}, api.Rat{}},
	} {
		if got := rat.Dot(x.a, x.b); !identical(got, x.want) {
			t.Errorf("P4.5: Dot(%v, %v) is %v", x.a, x.b, got)
		}
		if got := rat.Dot(x.b, x.a); !identical(got, x.want) {
			t.Errorf("P4.5: Dot(%v, %v) is %v", x.b, x.a, got)
		}
	}
}
