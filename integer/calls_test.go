package integer_test

import (
	"fmt"
	"math/rand/v2"
	"slices"
	"sync"
	"testing"

	"sherd/api"
	"sherd/integer"
)

// results calls all functions with two integers, and returns their results and what can be told from them.
func results(x, y api.Int) string {
	s := fmt.Sprint(integer.Valid(x), integer.Compare(x, y), integer.Sign(x))
	n, ok := integer.Small(x)
	s += fmt.Sprint(n, ok)
	q, rest := integer.Div(x, y)
	root, exact := integer.Root(x)
	for _, z := range []api.Int{integer.Add(x, y), integer.Sub(x, y), integer.Mul(x, y), integer.Neg(x), q, rest, integer.Gcd(x, y), root} {
		s += fmt.Sprint(z.Neg, z.D, len(z.D))
	}
	text := integer.Text(x)
	z, e := integer.Parse(text)
	b := integer.Encode(x)
	v, used, f := integer.Decode(b)
	return s + fmt.Sprint(exact, text, z.D, e, b, v.D, used, f)
}

// guarded returns a copy of x whose memory goes on behind its digits.
func guarded(x api.Int) (api.Int, []int) {
	all := append(slices.Clone(x.D), 123456789, -7, 1<<40)
	return api.Int{Neg: x.Neg, D: all[:len(x.D)]}, all
}

func TestArgumentsStay(t *testing.T) {
	r := rand.New(rand.NewPCG(3, 12))
	l := append(integers(), long(60, 23), integer.Neg(long(61, 24)))
	for range 5000 {
		x, y := l[r.IntN(len(l))], l[r.IntN(len(l))]
		a, first := guarded(x)
		b, second := guarded(y)
		before, behind := slices.Clone(first), slices.Clone(second)
		got := results(a, b)
		if !slices.Equal(first, before) || !slices.Equal(second, behind) || a.Neg != x.Neg || b.Neg != y.Neg {
			t.Fatal("a call changes its arguments, or what lies behind their digits:", show(x), show(y))
		}
		if got != results(x, y) {
			t.Fatal("a result depends on what lies behind the digits:", show(x), show(y))
		}
	}
}

func TestSameIntegerTwice(t *testing.T) {
	for _, x := range integers() {
		y := api.Int{Neg: x.Neg, D: slices.Clone(x.D)}
		if results(x, x) != results(x, y) || results(x, x) != results(y, x) {
			t.Fatal("a result depends on whether both arguments are the same memory:", show(x))
		}
	}
}

func TestNilAndEmptyAreTheSame(t *testing.T) {
	empty := api.Int{D: []int{}}
	for _, x := range integers() {
		if results(x, empty) != results(x, api.Int{}) || results(empty, x) != results(api.Int{}, x) {
			t.Fatal("an empty list of digits is not that of 0:", show(x))
		}
	}
	if results(empty, empty) != results(api.Int{}, api.Int{}) {
		t.Error("an empty list of digits is not that of 0")
	}
}

func TestResultsStay(t *testing.T) {
	x, y := long(20, 25), long(8, 26)
	want := results(x, y)
	q, rest := integer.Div(x, y)
	product, sum := integer.Mul(x, y), integer.Add(x, y)
	kept := fmt.Sprint(q, rest, product, sum)
	integer.Div(product, q)
	integer.Gcd(product, integer.Mul(q, y))
	integer.Root(product)
	integer.Sub(sum, y)
	if fmt.Sprint(q, rest, product, sum) != kept || results(x, y) != want {
		t.Error("later calls change earlier results")
	}
}

func TestCallsAtTheSameTime(t *testing.T) {
	l := integers()
	var group sync.WaitGroup
	for k := range 8 {
		group.Go(func() {
			for i := range l {
				x, y := l[i], l[(7*i+3)%len(l)]
				if got := results(x, y); got != results(x, y) || !same(integer.Sub(integer.Add(x, y), y), x) {
					t.Errorf("call %d: the results for %s and %s differ", k, show(x), show(y))
				}
			}
		})
	}
	group.Wait()
}
