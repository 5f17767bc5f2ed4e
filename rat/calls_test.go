package rat_test

import (
	"fmt"
	"math"
	"math/rand/v2"
	"slices"
	"strings"
	"sync"
	"testing"

	"sherd/api"
	"sherd/integer"
	"sherd/rat"
)

// results calls all functions with two numbers, and returns their results and what can be told from them.
func results(a, b api.Rat) string {
	n, ok := rat.Whole(a)
	least, e := rat.Between(a, b)
	parsed, f := rat.Parse(rat.Text(a))
	decoded, used, g := rat.Decode(rat.Encode(a))
	s := fmt.Sprint(rat.Valid(a), rat.Compare(a, b), rat.Sign(a), rat.Same(a, b), n, ok, e, f, used, g, rat.Text(a), rat.Encode(a))
	for _, c := range []api.Rat{
		rat.Make(a.P, b.P), rat.Add(a, b), rat.Sub(a, b), rat.Mul(a, b), rat.Div(a, b), rat.Neg(a), least, parsed, decoded,
		rat.Dot([]api.Rat{a, b}, []api.Rat{b, a, b}), {P: rat.Floor(a), Q: rat.Den(a)}, {P: rat.Ceil(a), Q: rat.Den(b)},
	} {
		s += fmt.Sprint(c.P.Neg, c.P.D, c.Q.Neg, c.Q.D)
	}
	return s
}

// some returns the edges and some other numbers.
func some() []api.Rat {
	l := numbers()
	r := rand.New(rand.NewPCG(4, 20))
	for range 100 {
		l = append(l, of(random(r, 5)))
	}
	return append(l, of(random(r, 80)), of(random(r, 90)))
}

// guarded returns a copy of a number whose memory goes on behind its digits.
func guarded(a api.Rat) (api.Rat, [][]int) {
	p := append(slices.Clone(a.P.D), 123456789, -7, 1<<40)
	q := append(slices.Clone(a.Q.D), 1, 0, math.MinInt)
	return api.Rat{P: api.Int{Neg: a.P.Neg, D: p[:len(a.P.D)]}, Q: api.Int{D: q[:len(a.Q.D)]}}, [][]int{p, q}
}

func TestArgumentsStay(t *testing.T) {
	r := rand.New(rand.NewPCG(4, 21))
	l := some()
	for range 3000 {
		a, b := l[r.IntN(len(l))], l[r.IntN(len(l))]
		c, first := guarded(a)
		d, second := guarded(b)
		before := fmt.Sprint(first, second)
		got := results(c, d)
		if fmt.Sprint(first, second) != before || !identical(a, c) || !identical(b, d) {
			t.Fatal("a call changes its arguments, or what lies behind their digits:", show(value(a)), show(value(b)))
		}
		if got != results(a, b) {
			t.Fatal("a result depends on what lies behind the digits:", show(value(a)), show(value(b)))
		}
	}
}

func TestListsStay(t *testing.T) {
	all := some()
	a, b := slices.Clone(all[:40]), slices.Clone(all[20:70])
	before := fmt.Sprint(a, b)
	want := rat.Dot(a, b)
	if fmt.Sprint(a, b) != before {
		t.Error("P4.5: Dot changes its arguments")
	}
	if !identical(rat.Dot(a[:40:40], b[:40]), want) || !identical(rat.Dot(b, a), want) {
		t.Error("P4.5: Dot depends on the memory of its lists")
	}
	clear(a)
	clear(b)
	if !identical(rat.Dot(all[:40], all[20:70]), want) {
		t.Error("P4.5: a result of Dot changes with its arguments")
	}
}

func TestSameNumberTwice(t *testing.T) {
	for _, a := range some() {
		b, _ := guarded(a)
		if results(a, a) != results(a, b) || results(a, a) != results(b, a) {
			t.Fatal("a result depends on whether both arguments are the same memory:", show(value(a)))
		}
	}
}

func TestNilAndEmptyAreTheSame(t *testing.T) {
	empty := api.Rat{P: api.Int{D: []int{}}, Q: api.Int{D: []int{}}}
	for _, a := range some() {
		if results(a, empty) != results(a, api.Rat{}) || results(empty, a) != results(api.Rat{}, a) {
			t.Fatal("an empty list of digits is not that of 0:", show(value(a)))
		}
		if len(a.Q.D) == 0 {
			b := api.Rat{P: a.P, Q: api.Int{D: []int{}}}
			if results(a, b) != results(a, a) || results(b, a) != results(a, a) {
				t.Fatal("an empty denominator is not 1:", show(value(a)))
			}
		}
	}
}

func TestResultsStay(t *testing.T) {
	l := some()
	a, b := l[len(l)-1], l[len(l)-2]
	want := results(a, b)
	sum, product, over := rat.Add(a, b), rat.Mul(a, b), rat.Div(a, b)
	kept := fmt.Sprint(sum, product, over)
	rat.Sub(sum, product)
	rat.Mul(product, rat.Div(sum, over))
	rat.Between(rat.Sub(sum, rat.Of(1, 7)), sum)
	rat.Dot([]api.Rat{sum, product, over}, []api.Rat{over, sum, product})
	if fmt.Sprint(sum, product, over) != kept || results(a, b) != want {
		t.Error("later calls change earlier results")
	}
}

func TestCallsAtTheSameTime(t *testing.T) {
	l := some()
	var group sync.WaitGroup
	for k := range 8 {
		group.Go(func() {
			for i := range l {
				a, b := l[i], l[(7*i+3)%len(l)]
				if got := results(a, b); got != results(a, b) || !identical(rat.Sub(rat.Add(a, b), b), a) {
					t.Errorf("call %d: the results for %s and %s differ", k, show(value(a)), show(value(b)))
				}
			}
		})
	}
	group.Wait()
}

// P1: what takes any arguments ends and does not panic.
func TestAnyArguments(t *testing.T) {
	r := rand.New(rand.NewPCG(4, 22))
	odd := func() api.Int {
		var d []int
		for range r.IntN(5) {
			d = append(d, []int{0, 1, 2, 999999999, api.Base, -1, math.MinInt, math.MaxInt, r.Int()}[r.IntN(9)])
		}
		return api.Int{Neg: r.IntN(2) == 0, D: d}
	}
	for range 50000 {
		a := api.Rat{P: odd(), Q: odd()}
		if rat.Valid(a) != canonical(a) {
			t.Fatalf("P4.1: Valid(%v) is not %v", a, canonical(a))
		}
	}
	for range 20000 {
		b := make([]byte, r.IntN(60))
		for i := range b {
			b[i] = byte(r.IntN(256))
		}
		checkParse(t, string(b))
		checkDecode(t, b)
	}
}

// Whatever is calculated with numbers of many digits is exact, and is done soon.
func TestManyDigits(t *testing.T) {
	r := rand.New(rand.NewPCG(4, 23))
	v, w := random(r, 2000), random(r, 2000)
	checkField(t, v, w)
	checkOrder(t, v, w)
	checkRound(t, v)
	a := of(v)
	if b, used, e := rat.Decode(rat.Encode(a)); !identical(a, b) || used != len(rat.Encode(a)) || e != api.OK {
		t.Error("P4.12: Decode does not lead back from a number of many digits")
	}
	if s := rat.Text(a); s != v.RatString() || strings.Count(s, "/") != 1 {
		t.Error("P4.7: the text of a number of many digits is", show(s))
	}
	third := rat.Make(integer.Of(1), whole(power(3, 4000)))
	sum := api.Rat{}
	for range 3 {
		sum = rat.Add(sum, third)
	}
	if !identical(sum, rat.Make(integer.Of(1), whole(power(3, 3999)))) {
		t.Error("P4.2: three times a third is", show(sum))
	}
}
