package polygon_test

import (
	"fmt"
	"math"
	"math/rand/v2"
	"slices"
	"sync"
	"testing"

	"sherd/api"
	"sherd/plane"
	"sherd/polygon"
	"sherd/rat"
)

// results calls all functions with a list of at least one corner and a placement, and returns their results.
func results(l []api.Vec, p api.Place) string {
	a, b := l[0], l[len(l)/2]
	where := 0
	if polygon.Valid(l) {
		where = polygon.Has(l, p.At)
	}
	lo, hi := polygon.Box(l)
	return fmt.Sprint(polygon.Valid(l), polygon.Convex(l), polygon.Area(l), polygon.Center(l), where, lo, hi, polygon.Meets(a, b, p.At, lo), polygon.Move(p, l))
}

// guarded returns a copy of a list that other corners follow in its memory, and whose numbers have other digits behind theirs, with all memory of the copy.
func guarded(l []api.Vec) ([]api.Vec, *[][]int, []api.Vec) {
	var memory [][]int
	digits := func(d []int) []int {
		c := append(slices.Clone(d), 123456789, -7, math.MinInt)
		memory = append(memory, c)
		return c[:len(d)]
	}
	all := append(slices.Clone(l), plane.Of(77, 78), plane.Of(-79, 80))
	for k := range l {
		for _, a := range []*api.Rat{&all[k].X, &all[k].Y} {
			a.P.D, a.Q.D = digits(a.P.D), digits(a.Q.D)
		}
	}
	return all[:len(l)], &memory, all
}

// lists returns some lists for calls of all functions.
func lists() [][]api.Vec {
	r := rand.New(rand.NewPCG(6, 18))
	var all [][]api.Vec
	for _, l := range [][]spot{shapes()["square"], shapes()["angle"], shapes()["comb"], parabola(12), parabola(13), {{0, 0}}, {{1, 1}, {1, 1}}} {
		all = append(all, corners(l), corners(reversed(l)), vectors(randomFrame(r, 9).list(l)))
	}
	for k := range 30 {
		all = append(all, vectors(randomFrame(r, 6).list(randomPolygon(r, 3+k%10, 6))), corners(randomSpots(r, 1+k%14, 5)))
	}
	return all
}

func TestArgumentsStay(t *testing.T) {
	r := rand.New(rand.NewPCG(6, 19))
	for _, l := range lists() {
		p := randomPlace(r, 4)
		m, memory, all := guarded(l)
		before := fmt.Sprint(*memory, all)
		got := results(m, p)
		if fmt.Sprint(*memory, all) != before {
			t.Fatal("a call changes its arguments, or what lies behind them:", show(l))
		}
		if got != results(l, p) {
			t.Fatal("a result depends on what lies behind the arguments:", show(l))
		}
	}
}

func TestResultsAreNew(t *testing.T) {
	r := rand.New(rand.NewPCG(6, 20))
	for _, l := range lists() {
		p := randomPlace(r, 4)
		want := results(l, p)
		first, second := polygon.Move(p, l), polygon.Move(p, l)
		kept := fmt.Sprint(second)
		for k := range first {
			first[k] = plane.Of(5, 6)
		}
		still := polygon.Move(api.Place{Turn: plane.Still()}, l)
		for k := range still {
			still[k] = api.Vec{}
		}
		if fmt.Sprint(second) != kept || results(l, p) != want {
			t.Fatal("a result shares memory:", show(l))
		}
	}
}

// P1: no list, and lists that are no polygons, for all functions that are specified for them.
func TestNilAndEmptyAreTheSame(t *testing.T) {
	for _, l := range [][]api.Vec{nil, {}} {
		lo, hi := polygon.Box(l)
		if polygon.Valid(l) || polygon.Convex(l) || !identical(polygon.Area(l), api.Rat{}) || !sameVec(polygon.Center(l), api.Vec{}) || !sameVec(lo, api.Vec{}) || !sameVec(hi, api.Vec{}) {
			t.Error("a function has another result for an empty list")
		}
		if len(polygon.Move(api.Place{Turn: plane.Still(), At: plane.Of(1, 2)}, l)) > 0 {
			t.Error("P6.6: an empty list is moved to one that is not")
		}
	}
	// Zeros and integers whose lists of digits are empty instead of nil.
	empty := api.Rat{P: api.Int{D: []int{}}, Q: api.Int{D: []int{}}}
	four := api.Rat{P: api.Int{D: []int{4}}, Q: api.Int{D: []int{}}}
	l := []api.Vec{{X: empty, Y: empty}, {X: four, Y: empty}, {X: four, Y: four}, {X: empty, Y: four}}
	if !polygon.Valid(l) || !polygon.Convex(l) || !rat.Same(polygon.Area(l), rat.Of(16, 1)) || !plane.Same(polygon.Center(l), plane.Of(2, 2)) || polygon.Has(l, plane.Of(0, 1)) != 0 {
		t.Error("an empty list of digits is not that of 0")
	}
}

func TestCallsAtTheSameTime(t *testing.T) {
	r := rand.New(rand.NewPCG(6, 21))
	all, p := lists(), randomPlace(r, 5)
	var want []string
	for _, l := range all {
		want = append(want, results(l, p))
	}
	var group sync.WaitGroup
	for k := range 8 {
		group.Go(func() {
			for i := range all {
				j := (7*i + k) % len(all)
				if results(all[j], p) != want[j] {
					t.Errorf("call %d: the results for the list %d differ", k, j)
				}
			}
		})
	}
	group.Wait()
}
