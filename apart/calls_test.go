package apart_test

import (
	"fmt"
	"math"
	"math/rand/v2"
	"slices"
	"sync"
	"testing"

	"sherd/apart"
	"sherd/api"
	"sherd/plane"
	"sherd/rat"
)

// call is two lists of cells, of which the first ones are taken for functions of two shapes, a margin and directions.
type call struct {
	a, b [][]api.Vec
	e    api.Rat
	l    []api.Vec
}

// results calls all functions and returns their results.
func (c call) results() string {
	all, found := apart.All(c.a, c.b, c.e)
	s := fmt.Sprint(all, found, apart.Check(c.a, c.b, c.e, c.l))
	if len(c.a) > 0 && len(c.b) > 0 {
		p, q := c.a[0], c.b[0]
		n, found := apart.Find(p, q, c.e)
		s += fmt.Sprint(apart.Gap(p[0], p, q), apart.Room(q[0], c.e), apart.Dirs(p, q), n, found, apart.Meet(p, q), apart.Depth(p, q))
	}
	return s
}

func calls() []call {
	r := rand.New(rand.NewPCG(8, 15))
	var all []call
	for k := range 40 {
		f := randomFrame(r, 1+k%8)
		a, b := someGroup(r, f, 0), someGroup(r, f, r.IntN(25))
		c := call{a: a.made, b: b.made, e: number(random(r, 2))}
		if len(a.cells)*len(b.cells) > 0 && k%2 == 0 {
			c.e = number(together(a, b))
		}
		if c.l, _ = apart.All(c.a, c.b, c.e); k%3 == 0 {
			c.l = append(c.l, vector(randomVec(r, 3)))
		}
		all = append(all, c)
	}
	return append(all, call{}, call{a: all[0].a}, call{b: all[1].b, l: []api.Vec{{}}})
}

// guarded returns a copy of a call whose lists are followed by other elements in their memory, and whose numbers have other digits behind theirs, with what shows all memory of the copy.
func guarded(c call) (call, func() string) {
	var memory []any
	digits := func(d []int) []int {
		more := append(slices.Clone(d), 123456789, -7, math.MinInt)
		memory = append(memory, more)
		return more[:len(d)]
	}
	number := func(a api.Rat) api.Rat {
		a.P.D, a.Q.D = digits(a.P.D), digits(a.Q.D)
		return a
	}
	list := func(l []api.Vec) []api.Vec {
		more := append(slices.Clone(l), plane.Of(77, 78), plane.Of(-79, 80))
		for k, p := range l {
			more[k] = api.Vec{X: number(p.X), Y: number(p.Y)}
		}
		memory = append(memory, more)
		return more[:len(l)]
	}
	group := func(g [][]api.Vec) [][]api.Vec {
		more := append(slices.Clone(g), corners(shapes()["square"]), nil)
		for k, l := range g {
			more[k] = list(l)
		}
		memory = append(memory, more)
		return more[:len(g)]
	}
	return call{group(c.a), group(c.b), number(c.e), list(c.l)}, func() string { return fmt.Sprint(memory...) }
}

func TestArgumentsStay(t *testing.T) {
	for _, c := range calls() {
		d, memory := guarded(c)
		before := memory()
		got := d.results()
		if memory() != before {
			t.Fatal("a call changes its arguments, or what lies behind them:", c)
		}
		if got != c.results() {
			t.Fatal("a result depends on what lies behind the arguments:", c)
		}
	}
}

func TestResultsAreNew(t *testing.T) {
	for _, c := range calls() {
		want := c.results()
		overwrite := func(l []api.Vec) {
			for k := range l {
				l[k] = plane.Of(-5, k)
			}
		}
		first, _ := apart.All(c.a, c.b, c.e)
		second, _ := apart.All(c.a, c.b, c.e)
		kept := fmt.Sprint(second)
		overwrite(first)
		if len(c.a) > 0 && len(c.b) > 0 {
			overwrite(apart.Dirs(c.a[0], c.b[0]))
		}
		if fmt.Sprint(second) != kept || c.results() != want {
			t.Fatal("a result shares memory:", c)
		}
	}
}

func TestNilAndEmptyAreTheSame(t *testing.T) {
	square := lists(shapes()["square"])
	for _, c := range []call{{}, {a: [][]api.Vec{}, b: [][]api.Vec{}, l: []api.Vec{}}, {a: square, b: nil, l: []api.Vec{}}, {a: [][]api.Vec{}, b: square}} {
		c.e = rat.Of(1, 1)
		if l, found := apart.All(c.a, c.b, c.e); len(l) > 0 || !found || apart.Check(c.a, c.b, c.e, c.l) != api.OK {
			t.Error("P8.5: a list without pairs is not apart:", c)
		}
	}
	// Zeros and integers whose lists of digits are empty instead of nil.
	empty := api.Rat{P: api.Int{D: []int{}}, Q: api.Int{D: []int{}}}
	two := api.Rat{P: api.Int{D: []int{2}}, Q: api.Int{D: []int{}}}
	l := []api.Vec{{X: empty, Y: empty}, {X: two, Y: empty}, {X: two, Y: two}, {X: empty, Y: two}}
	if n, found := apart.Find(l, corners(moved(shapes()["square"], 2, 0)), empty); !found || !sameVec(n, plane.Of(2, 0)) || !identical(apart.Depth(l, l), two) {
		t.Error("an empty list of digits is not that of 0")
	}
	if apart.Check([][]api.Vec{l}, [][]api.Vec{l}, rat.Of(-9, 1), []api.Vec{{X: empty, Y: empty}}) != api.ErrProof || apart.Check([][]api.Vec{l}, [][]api.Vec{l}, rat.Of(-9, 1), []api.Vec{{X: two, Y: empty}}) != api.OK {
		t.Error("P8.6: an empty list of digits is not that of 0")
	}
}

// P1: Gap and Dirs take all lists of at least one corner, and Check takes any directions.
func TestAnyArguments(t *testing.T) {
	r := rand.New(rand.NewPCG(8, 16))
	integer := func() api.Int {
		x := api.Int{Neg: r.IntN(3) == 0}
		for range r.IntN(4) {
			x.D = append(x.D, []int{0, 1, 2, 7, -1, api.Base - 1, api.Base, math.MinInt, math.MaxInt}[r.IntN(9)])
		}
		return x
	}
	number := func() api.Rat {
		if r.IntN(2) == 0 {
			return rat.Of(r.IntN(9)-4, 1+r.IntN(3))
		}
		return api.Rat{P: integer(), Q: integer()}
	}
	valid := 0
	for range 8000 {
		a, b := some(r), moved(some(r), 3, 3)
		n := api.Vec{X: number(), Y: number()}
		want := api.ErrProof
		if rat.Valid(n.X) && rat.Valid(n.Y) && (rat.Sign(n.X) != 0 || rat.Sign(n.Y) != 0) && rat.Compare(apart.Gap(n, corners(a), corners(b)), apart.Room(n, rat.Of(-2, 1))) >= 0 {
			want = api.OK
			valid++
		}
		if got := apart.Check(lists(a), lists(b), rat.Of(-2, 1), []api.Vec{n}); got != want {
			t.Fatalf("P8.6: Check of %v for %v and %v by -2 is %d", n, a, b, got)
		}
	}
	if valid < 500 {
		t.Error("too few directions are accepted:", valid)
	}
	long := corners(randomSpots(r, 50000, 1000))
	if got := apart.Dirs(long[:20000], long[20000:]); len(got) != 50004 {
		t.Errorf("P8.2: there are %d directions of 50000 corners", len(got))
	}
	if got := apart.Check(lists(shapes()["square"]), lists(shapes()["square"]), rat.Of(-9, 1), long); got != api.ErrProof {
		t.Errorf("P8.6: Check of 50000 directions is %d", got)
	}
}

func TestCallsAtTheSameTime(t *testing.T) {
	all := calls()
	var want []string
	for _, c := range all {
		want = append(want, c.results())
	}
	var group sync.WaitGroup
	for k := range 8 {
		group.Go(func() {
			for i := range all {
				j := (7*i + k) % len(all)
				if all[j].results() != want[j] {
					t.Errorf("call %d: the results of %d differ", k, j)
				}
			}
		})
	}
	group.Wait()
}
