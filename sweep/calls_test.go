package sweep_test

import (
	"fmt"
	"math"
	"math/rand/v2"
	"slices"
	"sync"
	"testing"

	"sherd/api"
	"sherd/plane"
	"sherd/rat"
	"sherd/sweep"
)

// call is two lists of shapes, of which the first ones are taken for functions of two shapes, a motion, a margin and guards.
type call struct {
	a, b [][]api.Vec
	v    api.Vec
	e    api.Rat
	l    []api.Guard
}

// results calls all functions and returns their results.
func (c call) results() string {
	all, found := sweep.All(c.a, c.b, c.v, c.e)
	s := fmt.Sprint(all, found, sweep.CheckAll(c.a, c.b, c.v, c.e, c.l))
	if len(c.a) > 0 && len(c.b) > 0 {
		p, q := c.a[0], c.b[0]
		g, found := sweep.Free(p, q, c.v, c.e)
		low, high, hit := sweep.Hit(p, q, c.v, c.e)
		h, ever := sweep.Away(p, q, c.v, c.e)
		s += fmt.Sprint(g, found, low, high, hit, h, ever)
		for _, g := range append([]api.Guard{g, h}, c.l...) {
			s += fmt.Sprint(sweep.Check(p, q, c.v, c.e, g), sweep.CheckAway(p, q, c.v, c.e, g))
		}
	}
	return s
}

func calls() []call {
	r := rand.New(rand.NewPCG(9, 11))
	var all []call
	for k := range 30 {
		a, b, v := someGroups(r, frameOf(r, k))
		c := call{a.given(), b.given(), vector(v), number(random(r, 2)), nil}
		if l := scenes(a, b, v, random(r, 2)); len(l) > 0 && k%2 == 0 {
			c.e = number(l[0].widest(false))
			c.l = append(c.l, someGuard(r, l[0]).given())
		}
		l, _ := sweep.All(c.a, c.b, c.v, c.e)
		c.l = append(l, c.l...)
		all = append(all, c)
	}
	return append(all, call{}, call{a: all[0].a}, call{b: all[1].b, l: []api.Guard{{}}})
}

// guarded returns a copy of a call whose lists are followed by other elements in their memory, and whose numbers have other digits behind theirs, with what shows all memory of the copy.
func guarded(c call) (call, func() string) {
	var memory []any
	digits := func(d []int) []int {
		more := append(slices.Clone(d), 123456789, -7, math.MinInt)
		memory = append(memory, more)
		return more[:len(d)]
	}
	number := func(a api.Rat) api.Rat {
		a.P.D, a.Q.D = digits(a.P.D), digits(a.Q.D)
		return a
	}
	vector := func(v api.Vec) api.Vec { return api.Vec{X: number(v.X), Y: number(v.Y)} }
	group := func(g [][]api.Vec) [][]api.Vec {
		more := append(slices.Clone(g), corners(shapes()["square"]), nil)
		for k, l := range g {
			longer := append(slices.Clone(l), plane.Of(77, 78), plane.Of(-79, 80))
			for i, p := range l {
				longer[i] = vector(p)
			}
			memory = append(memory, longer)
			more[k] = longer[:len(l)]
		}
		memory = append(memory, more)
		return more[:len(g)]
	}
	more := append(slices.Clone(c.l), api.Guard{First: plane.Of(1, 0)}, api.Guard{Until: rat.Of(7, 1)})
	for k, g := range c.l {
		more[k] = api.Guard{First: vector(g.First), Second: vector(g.Second), Until: number(g.Until)}
	}
	memory = append(memory, more)
	return call{group(c.a), group(c.b), vector(c.v), number(c.e), more[:len(c.l)]}, func() string { return fmt.Sprint(memory...) }
}

func TestArgumentsStay(t *testing.T) {
	for _, c := range calls() {
		d, memory := guarded(c)
		before := memory()
		got := d.results()
		if memory() != before {
			t.Fatal("a call changes its arguments, or what lies behind them:", c)
		}
		if got != c.results() {
			t.Fatal("a result depends on what lies behind the arguments:", c)
		}
	}
}

func TestResultsAreNew(t *testing.T) {
	for _, c := range calls() {
		want := c.results()
		first, _ := sweep.All(c.a, c.b, c.v, c.e)
		second, _ := sweep.All(c.a, c.b, c.v, c.e)
		kept := fmt.Sprint(second)
		for k := range first {
			first[k] = api.Guard{Until: rat.Of(k, 7)}
		}
		if fmt.Sprint(second) != kept || c.results() != want {
			t.Fatal("a result shares memory:", c)
		}
	}
}

func TestNilAndEmptyAreTheSame(t *testing.T) {
	square := lists(shapes()["square"])
	for _, c := range []call{{}, {a: [][]api.Vec{}, b: [][]api.Vec{}, l: []api.Guard{}}, {a: square, b: nil, l: []api.Guard{}}, {a: [][]api.Vec{}, b: square}} {
		c.e = rat.Of(1, 1)
		if l, found := sweep.All(c.a, c.b, c.v, c.e); len(l) > 0 || !found || sweep.CheckAll(c.a, c.b, c.v, c.e, c.l) != api.OK {
			t.Error("P9.5: a list without pairs does not stay apart:", c)
		}
	}
	// Zeros and integers whose lists of digits are empty instead of nil.
	none := api.Rat{P: api.Int{D: []int{}}, Q: api.Int{D: []int{}}}
	two := api.Rat{P: api.Int{D: []int{2}}, Q: api.Int{D: []int{}}}
	a, b := []api.Vec{{X: none, Y: none}, {X: two, Y: none}, {X: two, Y: two}, {X: none, Y: two}}, corners(moved(shapes()["square"], 2, 0))
	want := api.Guard{First: plane.Of(2, 0), Second: plane.Of(2, 0), Until: rat.Of(1, 1)}
	if g, found := sweep.Free(a, b, api.Vec{X: none, Y: two}, none); !found || !sameGuard(g, want) {
		t.Error("P9.1: an empty list of digits is not that of 0")
	}
	want.Until = none
	if g, found := sweep.Away(a, b, api.Vec{X: none, Y: two}, none); !found || !sameGuard(g, want) {
		t.Error("P9.4: an empty list of digits is not that of 0")
	}
	if sweep.Check(a, b, api.Vec{X: none, Y: two}, none, want) != api.OK || sweep.CheckAway(a, b, api.Vec{X: none, Y: two}, none, want) != api.OK {
		t.Error("P9.2, P9.4: an empty list of digits is not that of 0")
	}
	want.First = api.Vec{X: none, Y: none}
	if sweep.Check(a, b, api.Vec{}, rat.Of(-9, 1), want) != api.ErrProof || sweep.CheckAway(a, b, api.Vec{}, rat.Of(-9, 1), want) != api.ErrProof {
		t.Error("P9.2, P9.4: an empty list of digits is not that of 0 in a direction")
	}
}

// P1: Check, CheckAway and CheckAll take any guards.
func TestAnyArguments(t *testing.T) {
	r := rand.New(rand.NewPCG(9, 12))
	integer := func() api.Int {
		x := api.Int{Neg: r.IntN(3) == 0}
		for range r.IntN(4) {
			x.D = append(x.D, []int{0, 1, 2, 7, -1, api.Base - 1, api.Base, math.MinInt, math.MaxInt}[r.IntN(9)])
		}
		return x
	}
	some := func() api.Rat {
		if r.IntN(8) > 0 {
			return rat.Of(r.IntN(9)-4, 1+r.IntN(3))
		}
		return api.Rat{P: integer(), Q: integer()}
	}
	square := shapes()["square"]
	a, b, v, e := lists(square), lists(moved(square, 4, 1)), plane.Of(1, -2), rat.Of(-1, 1)
	valid := 0
	for range 4000 {
		g := api.Guard{First: api.Vec{X: some(), Y: some()}, Second: api.Vec{X: some(), Y: some()}, Until: some()}
		fine := rat.Valid(g.First.X) && rat.Valid(g.First.Y) && rat.Valid(g.Second.X) && rat.Valid(g.Second.Y) && rat.Valid(g.Until)
		got, ever := sweep.Check(a[0], b[0], v, e, g), sweep.CheckAway(a[0], b[0], v, e, g)
		for _, x := range []api.Errno{got, ever} {
			if x != api.OK && x != api.ErrProof || x == api.OK && !fine {
				t.Fatalf("P9.2, P9.4: a check of %v is %d", g, x)
			}
		}
		if all := sweep.CheckAll(a, b, v, e, []api.Guard{g}); all != got {
			t.Fatalf("P9.5: CheckAll of %v is %d, and Check %d", g, all, got)
		}
		if got == api.OK {
			valid++
		}
	}
	if valid < 100 {
		t.Error("too few guards are accepted:", valid)
	}
	if got := sweep.CheckAll(a, b, v, e, make([]api.Guard, 1<<20)); got != api.ErrProof {
		t.Errorf("P9.5: CheckAll of many guards is %d", got)
	}
}

func TestCallsAtTheSameTime(t *testing.T) {
	all := calls()
	var want []string
	for _, c := range all {
		want = append(want, c.results())
	}
	var group sync.WaitGroup
	for k := range 8 {
		group.Go(func() {
			for i := range all {
				j := (7*i + k) % len(all)
				if all[j].results() != want[j] {
					t.Errorf("call %d: the results of %d differ", k, j)
				}
			}
		})
	}
	group.Wait()
}
