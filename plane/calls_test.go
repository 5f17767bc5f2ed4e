package plane_test

import (
	"fmt"
	"math"
	"math/rand/v2"
	"slices"
	"sync"
	"testing"

	"sherd/api"
	"sherd/plane"
	"sherd/rat"
)

// results calls all functions with two placements and a vector, and returns their results.
func results(p, q api.Place, a api.Vec) string {
	b, u, v := q.At, p.Turn, q.Turn
	turned, e := plane.Align(a, b)
	back, f := plane.Align(a, plane.Rotate(u, a))
	return fmt.Sprint(
		plane.Add(a, b), plane.Sub(a, b), plane.Scale(a, b.X), plane.Dot(a, b), plane.Cross(a, b), plane.Side(a, b, p.At), plane.Same(a, b),
		plane.Compare(a, b), plane.Still(), plane.Valid(u), plane.SameTurn(u, v), plane.Rotate(u, a), plane.After(u, v), plane.Back(u),
		turned, e, back, f, plane.Put(p, a), plane.Compose(p, q), plane.Inverse(p))
}

// guarded returns a copy of a placement whose numbers have other ones behind their digits, and all memory of the copy.
func guarded(p api.Place) (api.Place, *[][]int) {
	var memory [][]int
	digits := func(d []int) []int {
		c := append(slices.Clone(d), 123456789, -7, math.MinInt)
		memory = append(memory, c)
		return c[:len(d)]
	}
	for _, a := range []*api.Rat{&p.Turn.C, &p.Turn.S, &p.At.X, &p.At.Y} {
		a.P.D, a.Q.D = digits(a.P.D), digits(a.Q.D)
	}
	return p, &memory
}

// calls returns some placements for calls of all functions.
func calls() []api.Place {
	r := rand.New(rand.NewPCG(5, 20))
	var l []api.Place
	for _, p := range somePlaces() {
		l = append(l, placing(p))
	}
	for range 30 {
		l = append(l, placing(randomPlace(r, 20)))
	}
	return l
}

func TestArgumentsStay(t *testing.T) {
	l := calls()
	r := rand.New(rand.NewPCG(5, 21))
	for range 600 {
		p, q, a := l[r.IntN(len(l))], l[r.IntN(len(l))], l[r.IntN(len(l))]
		x, first := guarded(p)
		y, second := guarded(q)
		z, third := guarded(a)
		before := fmt.Sprint(*first, *second, *third)
		got := results(x, y, z.At)
		if fmt.Sprint(*first, *second, *third) != before {
			t.Fatal("a call changes its arguments, or what lies behind their digits:", show(p), show(q), show(a.At))
		}
		if got != results(p, q, a.At) {
			t.Fatal("a result depends on what lies behind the digits:", show(p), show(q), show(a.At))
		}
	}
}

func TestResultsStay(t *testing.T) {
	r := rand.New(rand.NewPCG(5, 22))
	p, q, a := placing(randomPlace(r, 60)), placing(randomPlace(r, 60)), vector(randomVec(r, 60))
	want := results(p, q, a)
	both, undo, moved := plane.Compose(p, q), plane.Inverse(p), plane.Put(q, a)
	kept := fmt.Sprint(both, undo, moved)
	plane.Compose(both, undo)
	plane.Inverse(both)
	plane.Side(moved, both.At, undo.At)
	plane.Align(moved, plane.Rotate(undo.Turn, moved))
	plane.Sub(plane.Scale(moved, both.At.X), plane.Put(undo, plane.Add(moved, a)))
	if fmt.Sprint(both, undo, moved) != kept || results(p, q, a) != want {
		t.Error("later calls change earlier results")
	}
}

func TestNilAndEmptyAreTheSame(t *testing.T) {
	empty := api.Rat{P: api.Int{D: []int{}}, Q: api.Int{D: []int{}}}
	one := api.Rat{P: api.Int{D: []int{1}}, Q: api.Int{D: []int{}}}
	p := api.Place{Turn: api.Turn{C: one, S: empty}, At: api.Vec{X: empty, Y: one}}
	want := api.Place{Turn: plane.Still(), At: plane.Of(0, 1)}
	if !plane.Valid(p.Turn) || !plane.Valid(api.Turn{C: empty, S: one}) || plane.Valid(api.Turn{C: empty, S: empty}) {
		t.Error("P5.3: Valid tells an empty list from a nil list")
	}
	for _, q := range calls() {
		if results(p, q, q.At) != results(want, q, q.At) || results(q, p, p.At) != results(q, want, want.At) {
			t.Fatal("an empty list of digits is not that of 0:", show(q))
		}
	}
	if _, e := plane.Align(api.Vec{X: empty, Y: empty}, plane.Of(1, 0)); e != api.ErrArg {
		t.Error("P5.4: a vector with empty lists of digits is not zero: the error is", e)
	}
}

func TestCallsAtTheSameTime(t *testing.T) {
	l := calls()
	var group sync.WaitGroup
	for k := range 8 {
		group.Go(func() {
			for i, p := range l {
				q, a := l[(7*i+k)%len(l)], l[(3*i+1)%len(l)].At
				if got := results(p, q, a); got != results(p, q, a) || !sameVec(plane.Put(plane.Inverse(p), plane.Put(p, a)), a) {
					t.Errorf("call %d: the results for placement %d differ", k, i)
				}
			}
		})
	}
	group.Wait()
}

// P1: Valid takes any arguments, ends and does not panic.
func TestAnyTurns(t *testing.T) {
	r := rand.New(rand.NewPCG(5, 23))
	odd := func() api.Int {
		var d []int
		for range r.IntN(4) {
			d = append(d, []int{0, 1, 3, 4, 5, 999999999, api.Base, -1, math.MinInt, math.MaxInt, r.Int()}[r.IntN(11)])
		}
		return api.Int{Neg: r.IntN(2) == 0, D: d}
	}
	for k := range 60000 {
		u := api.Turn{C: api.Rat{P: odd(), Q: odd()}, S: api.Rat{P: odd(), Q: odd()}}
		switch k % 3 {
		case 1:
			u.C = rat.Of(r.IntN(7)-3, 1+r.IntN(5))
		case 2:
			u.S = rat.Of(r.IntN(7)-3, 1+r.IntN(5))
		}
		want := rat.Valid(u.C) && rat.Valid(u.S)
		if want {
			c, s := value(u.C), value(u.S)
			want = times(c, c).Add(times(c, c), times(s, s)).RatString() == "1"
		}
		if got := plane.Valid(u); got != want {
			t.Fatalf("P5.3: Valid(%v) is %v", u, got)
		}
	}
}
