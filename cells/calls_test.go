package cells_test

import (
	"fmt"
	"math"
	"math/rand/v2"
	"slices"
	"sync"
	"testing"

	"sherd/api"
	"sherd/cells"
	"sherd/plane"
)

// results calls all functions and returns their results.
func results(l []api.Vec, w [][3]int) string {
	t, e := cells.Cut(l)
	parts, f := cells.Of(l)
	var ears []bool
	for k := -1; k <= len(l); k++ {
		ears = append(ears, cells.Ear(l, k))
	}
	return fmt.Sprint(t, e, parts, f, ears, cells.Check(l, w))
}

// call is a list of corners and one of triples.
type call struct {
	l []api.Vec
	w [][3]int
}

func calls() []call {
	r := rand.New(rand.NewPCG(7, 11))
	c := []call{{nil, nil}, {corners(parabola(13)), [][3]int{{0, 1, 2}}}, {corners(parabola(2)), nil}}
	for _, name := range []string{"triangle", "square", "notch", "dart", "tooth", "teeth", "comb", "star"} {
		l := shapes()[name]
		w := someWay(r, l)
		c = append(c, call{corners(l), cut(l)}, call{corners(l), w[1:]}, call{randomFrame(r, 15).list(l), w}, call{corners(reversed(l)), w})
	}
	for k := range 20 {
		l := randomPolygon(r, 3+k%10, 6)
		c = append(c, call{corners(l), someWay(r, l)}, call{corners(randomSpots(r, k%14, 5)), cut(l)})
	}
	return c
}

// guarded returns a copy of a call whose lists are followed by other elements in their memory, and whose numbers have other digits behind theirs, with all memory of the copy.
func guarded(c call) (call, func() string) {
	var memory [][]int
	digits := func(d []int) []int {
		c := append(slices.Clone(d), 123456789, -7, math.MinInt)
		memory = append(memory, c)
		return c[:len(d)]
	}
	all := append(slices.Clone(c.l), plane.Of(77, 78), plane.Of(-79, 80))
	for k := range c.l {
		for _, a := range []*api.Rat{&all[k].X, &all[k].Y} {
			a.P.D, a.Q.D = digits(a.P.D), digits(a.Q.D)
		}
	}
	triples := append(slices.Clone(c.w), [3]int{7, 8, 9}, [3]int{-1, -2, -3})
	return call{all[:len(c.l)], triples[:len(c.w)]}, func() string { return fmt.Sprint(memory, all, triples) }
}

func TestArgumentsStay(t *testing.T) {
	for _, c := range calls() {
		d, memory := guarded(c)
		before := memory()
		got := results(d.l, d.w)
		if memory() != before {
			t.Fatal("a call changes its arguments, or what lies behind them:", show(c.l), c.w)
		}
		if got != results(c.l, c.w) {
			t.Fatal("a result depends on what lies behind the arguments:", show(c.l), c.w)
		}
	}
}

func TestResultsAreNew(t *testing.T) {
	for _, c := range calls() {
		l := slices.Clone(c.l)
		want := results(l, c.w)
		first, _ := cells.Cut(l)
		second, _ := cells.Cut(l)
		kept := fmt.Sprint(second)
		for k := range first {
			first[k] = [3]int{-5, -6, -7}
		}
		parts, _ := cells.Of(l)
		others, _ := cells.Of(l)
		same := fmt.Sprint(others)
		for k := range parts {
			// What is added to a triangle reaches no other one.
			parts[k] = append(parts[k], plane.Of(5, 6))
			one := fmt.Sprint(parts[k])
			for m := range parts {
				for i := range parts[m] {
					if m != k {
						parts[m][i] = plane.Of(k, m)
					}
				}
			}
			if fmt.Sprint(parts[k]) != one {
				t.Fatal("P7.4: two triangles share memory:", show(l))
			}
		}
		if fmt.Sprint(second) != kept || fmt.Sprint(others) != same || results(l, c.w) != want {
			t.Fatal("a result shares memory:", show(l))
		}
	}
}

func TestNilAndEmptyAreTheSame(t *testing.T) {
	if results(nil, nil) != results([]api.Vec{}, [][3]int{}) {
		t.Error("a function has another result for an empty list")
	}
	// Zeros and integers whose lists of digits are empty instead of nil.
	empty := api.Rat{P: api.Int{D: []int{}}, Q: api.Int{D: []int{}}}
	four := api.Rat{P: api.Int{D: []int{4}}, Q: api.Int{D: []int{}}}
	l := []api.Vec{{X: empty, Y: empty}, {X: four, Y: empty}, {X: four, Y: four}, {X: empty, Y: four}}
	if got, e := cells.Cut(l); e != api.OK || !slices.Equal(got, [][3]int{{3, 0, 1}, {1, 2, 3}}) || !cells.Ear(l, 2) || cells.Check(l, got) != api.OK {
		t.Error("an empty list of digits is not that of 0")
	}
}

func TestCallsAtTheSameTime(t *testing.T) {
	all := calls()
	var want []string
	for _, c := range all {
		want = append(want, results(c.l, c.w))
	}
	var group sync.WaitGroup
	for k := range 8 {
		group.Go(func() {
			for i := range all {
				j := (7*i + k) % len(all)
				if results(all[j].l, all[j].w) != want[j] {
					t.Errorf("call %d: the results of %d differ", k, j)
				}
			}
		})
	}
	group.Wait()
}

// P1: the functions take any lists and indices, end and do not panic; if a list is not valid, that is the first error.
func TestAnyArguments(t *testing.T) {
	r := rand.New(rand.NewPCG(7, 12))
	index := func() int { return []int{math.MinInt, math.MaxInt, -1, 0, 1, 2, 3, 4, 12, 1 << 32}[r.IntN(10)] }
	for k := range 8000 {
		l := randomSpots(r, r.IntN(15), 4)
		if k%4 == 0 {
			l = shapes()["touched"]
		}
		var w [][3]int
		for range r.IntN(15) {
			w = append(w, [3]int{index(), index(), index()})
		}
		made, want := corners(l), api.ErrArg
		if valid(l) {
			if want = api.ErrProof; accepted(l, w) {
				want = api.OK
			}
		}
		if e := cells.Check(made, w); e != want {
			t.Fatalf("P7.3: Check of %v for %s is %d", w, show(made), e)
		}
		if at := index(); cells.Ear(made, at) != (valid(l) && at >= 0 && at < len(l) && ear(l, all(l), at)) {
			t.Fatalf("P7.2: Ear of %d is %v for %s", at, cells.Ear(made, at), show(made))
		}
	}
	refuse(t, corners(randomSpots(r, 100000, 1000)))
}
