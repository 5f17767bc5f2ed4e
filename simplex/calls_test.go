package simplex_test

import (
	"fmt"
	"math"
	"math/rand/v2"
	"slices"
	"sync"
	"testing"

	"sherd/api"
	"sherd/rat"
	"sherd/simplex"
)

// wrongProgram is one that is too large or not well-formed.
type wrongProgram struct {
	name string
	p    api.Program
	want api.Errno
}

func wrongPrograms() []wrongProgram {
	zero := func(n int) []api.Rat { return make([]api.Rat, n) }
	lines := func(n, vars int) []api.Line {
		l := make([]api.Line, n)
		for k := range l {
			l[k].A = zero(vars)
		}
		return l
	}
	odd := func(at, n int) []api.Line {
		l := lines(4, 2)
		l[at].A = zero(n)
		return l
	}
	return []wrongProgram{
		{"49 variables", api.Program{Vars: 49, Goal: zero(49)}, api.ErrLimit},
		{"49 variables with lines", api.Program{Vars: 49, Goal: zero(49), Lines: lines(3, 49)}, api.ErrLimit},
		{"49 variables without a goal", api.Program{Vars: 49}, api.ErrLimit},
		{"49 variables, but 48 elements", api.Program{Vars: 49, Goal: zero(48), Lines: lines(3, 48)}, api.ErrLimit},
		{"the greatest number of variables", api.Program{Vars: math.MaxInt}, api.ErrLimit},
		{"129 lines", api.Program{Vars: 2, Goal: zero(2), Lines: lines(129, 2)}, api.ErrLimit},
		{"129 lines and no variables", api.Program{Lines: lines(129, 0)}, api.ErrLimit},
		{"129 lines that are too short", api.Program{Vars: 2, Goal: zero(2), Lines: lines(129, 1)}, api.ErrLimit},
		{"129 lines and a goal that is too short", api.Program{Vars: 2, Goal: zero(1), Lines: lines(129, 2)}, api.ErrLimit},
		{"129 lines and fewer than no variables", api.Program{Vars: -1, Lines: lines(129, 0)}, api.ErrLimit},
		{"49 variables and 129 lines", api.Program{Vars: 49, Goal: zero(49), Lines: lines(129, 49)}, api.ErrLimit},
		{"-1 variables", api.Program{Vars: -1}, api.ErrArg},
		{"-1 variables with a goal", api.Program{Vars: -1, Goal: zero(1)}, api.ErrArg},
		{"-1 variables with a line", api.Program{Vars: -1, Lines: lines(1, 0)}, api.ErrArg},
		{"the least number of variables", api.Program{Vars: math.MinInt}, api.ErrArg},
		{"no goal", api.Program{Vars: 2, Lines: lines(4, 2)}, api.ErrArg},
		{"a goal with an element too few", api.Program{Vars: 2, Goal: zero(1), Lines: lines(4, 2)}, api.ErrArg},
		{"a goal with an element too many", api.Program{Vars: 2, Goal: zero(3), Lines: lines(4, 2)}, api.ErrArg},
		{"a goal with 49 elements", api.Program{Vars: 48, Goal: zero(49), Lines: lines(4, 48)}, api.ErrArg},
		{"a goal and no variables", api.Program{Goal: zero(1)}, api.ErrArg},
		{"the first line with an element too few", api.Program{Vars: 2, Goal: zero(2), Lines: odd(0, 1)}, api.ErrArg},
		{"a line with an element too many", api.Program{Vars: 2, Goal: zero(2), Lines: odd(2, 3)}, api.ErrArg},
		{"the last line with an element too few", api.Program{Vars: 2, Goal: zero(2), Lines: odd(3, 1)}, api.ErrArg},
		{"the last line with an element too many", api.Program{Vars: 2, Goal: zero(2), Lines: odd(3, 3)}, api.ErrArg},
		{"an empty line", api.Program{Vars: 2, Goal: zero(2), Lines: odd(1, 0)}, api.ErrArg},
		{"lines and no variables", api.Program{Lines: lines(2, 1)}, api.ErrArg},
		{"goal and lines of one element and two variables", api.Program{Vars: 2, Goal: zero(1), Lines: lines(2, 1)}, api.ErrArg},
	}
}

// As many variables and lines as there may be.
func TestLimits(t *testing.T) {
	n, m := api.MaxVars, api.MaxLines
	p := program{goal: zeros(n)}
	p.goal[n-1] = whole(2)
	var groups []int
	for k := range m {
		a := zeros(n)
		a[k%n] = whole(1)
		p.lines = append(p.lines, line{a, whole(k)})
		groups = append(groups, k)
	}
	if a := solved(t, p); a.kind != api.Optimal || a.value.Cmp(whole(2*(n-1))) != 0 {
		t.Errorf("P10.1: the answer for %d variables and %d lines is %s", n, m, show(a))
	}
	checkRange(t, p, p.goal)
	if l, e := simplex.Core(p.given(), groups); len(l) > 0 || e != api.ErrNone {
		t.Errorf("P10.4: Core returns %v and %d for %d variables and %d lines", l, e, n, m)
	}
}

// call is a program with an answer, another goal, and groups.
type call struct {
	p      api.Program
	a      api.Answer
	goal   []api.Rat
	groups []int
}

// results calls all functions and returns their results.
func (c call) results() string {
	a, e := simplex.Solve(c.p)
	low, high, f := simplex.Range(c.p, c.goal)
	l, g := simplex.Core(c.p, c.groups)
	return fmt.Sprint(a, e, simplex.Check(c.p, c.a), simplex.Check(c.p, a), low, high, f, l, g)
}

func calls() []call {
	r := rand.New(rand.NewPCG(10, 15))
	var all []call
	for k := range 60 {
		p := someProgram(r, r.IntN(5), r.IntN(10))
		if k%6 == 0 {
			p = inFrame(r, p, 1+k)
		}
		c := call{p.given(), api.Answer{}, numbers(smallInts(r, p.vars(), 3)), someGroups(r, len(p.lines), 5)}
		c.a, _ = simplex.Solve(c.p)
		if k%3 == 0 {
			c.a = changed(r, read(c.a)).given()
		}
		all = append(all, c)
	}
	for _, c := range wrongPrograms() {
		all = append(all, call{p: c.p, goal: c.p.Goal, groups: make([]int, len(c.p.Lines))})
	}
	return append(all, call{}, call{goal: make([]api.Rat, 3), groups: []int{-7}})
}

// guarded returns a copy of a call whose lists are followed by other elements in their memory, and whose numbers have other digits behind theirs, with what shows all memory of the copy.
func guarded(c call) (call, func() string) {
	var memory []any
	digits := func(d []int) []int {
		more := append(slices.Clone(d), 123456789, -7, math.MinInt)
		memory = append(memory, more)
		return more[:len(d)]
	}
	number := func(a api.Rat) api.Rat {
		a.P.D, a.Q.D = digits(a.P.D), digits(a.Q.D)
		return a
	}
	list := func(l []api.Rat) []api.Rat {
		more := append(slices.Clone(l), rat.Of(77, 78), rat.Of(-79, 80))
		for k, a := range l {
			more[k] = number(a)
		}
		memory = append(memory, more)
		return more[:len(l)]
	}
	lines := append(slices.Clone(c.p.Lines), api.Line{A: make([]api.Rat, 3)}, api.Line{B: rat.Of(-1, 1)})
	for k, l := range c.p.Lines {
		lines[k] = api.Line{A: list(l.A), B: number(l.B)}
	}
	groups := append(slices.Clone(c.groups), 5, -9)
	memory = append(memory, lines, groups)
	d := call{
		api.Program{Vars: c.p.Vars, Lines: lines[:len(c.p.Lines)], Goal: list(c.p.Goal)},
		api.Answer{Kind: c.a.Kind, X: list(c.a.X), Y: list(c.a.Y), Value: number(c.a.Value)},
		list(c.goal), groups[:len(c.groups)],
	}
	return d, func() string { return fmt.Sprint(memory...) }
}

func TestArgumentsStay(t *testing.T) {
	for _, c := range calls() {
		d, memory := guarded(c)
		before := memory()
		got := d.results()
		if memory() != before {
			t.Fatal("a call changes its arguments, or what lies behind them:", c)
		}
		if got != c.results() {
			t.Fatal("a result depends on what lies behind the arguments:", c)
		}
	}
}

func TestResultsAreNew(t *testing.T) {
	spoil := func(l []api.Rat) {
		l = l[:cap(l)]
		for k := range l {
			l[k] = rat.Of(k-1000, 7)
		}
	}
	for _, c := range calls() {
		want := c.results()
		a, _ := simplex.Solve(c.p)
		b, _ := simplex.Solve(c.p)
		low, high, _ := simplex.Range(c.p, c.goal)
		l, _ := simplex.Core(c.p, c.groups)
		m, _ := simplex.Core(c.p, c.groups)
		for _, step := range []struct {
			spoiled []api.Rat
			others  []any
		}{
			{a.X, []any{a.Y, b, low, high}}, {a.Y, []any{b, low, high}},
			{low.X, []any{b, low.Y, high}}, {low.Y, []any{b, high}}, {high.X, []any{b, high.Y}}, {high.Y, []any{b}},
		} {
			before := fmt.Sprint(step.others...)
			spoil(step.spoiled)
			if fmt.Sprint(step.others...) != before {
				t.Fatal("two results share memory:", c)
			}
		}
		before := fmt.Sprint(m)
		l = l[:cap(l)]
		for k := range l {
			l[k] = -77
		}
		if fmt.Sprint(m) != before || c.results() != want {
			t.Fatal("a result shares memory with what a later call uses:", c)
		}
	}
}

func TestNilAndEmptyAreTheSame(t *testing.T) {
	none := []api.Rat{}
	plain := call{}
	empty := call{api.Program{Lines: []api.Line{}, Goal: none}, api.Answer{X: none, Y: none}, none, []int{}}
	if plain.results() != empty.results() {
		t.Error("empty lists are not nil ones:", plain.results(), empty.results())
	}
	// Lines without elements.
	plain = call{p: api.Program{Lines: []api.Line{{B: rat.Of(-2, 1)}, {B: rat.Of(3, 1)}}}, a: api.Answer{Kind: api.Infeasible, Y: make([]api.Rat, 2)}, groups: []int{0, 1}}
	empty = plain
	empty.p.Lines = []api.Line{{A: none, B: rat.Of(-2, 1)}, {A: none, B: rat.Of(3, 1)}}
	empty.p.Goal, empty.goal, empty.a.X = none, none, none
	if plain.results() != empty.results() {
		t.Error("empty lines are not nil ones:", plain.results(), empty.results())
	}
	// Zeros and integers whose lists of digits are empty instead of nil.
	zero := api.Rat{P: api.Int{D: []int{}}, Q: api.Int{D: []int{}}}
	two := api.Rat{P: api.Int{D: []int{2}}, Q: api.Int{D: []int{}}}
	p := api.Program{Vars: 2, Goal: []api.Rat{two, zero}, Lines: []api.Line{{A: []api.Rat{two, zero}, B: two}, {A: []api.Rat{zero, zero}, B: zero}}}
	a, e := simplex.Solve(p)
	if e != api.OK || a.Kind != api.Optimal || !rat.Same(a.Value, two) || simplex.Check(p, a) != api.OK {
		t.Error("P10.1: an empty list of digits is not that of 0:", show(a), e)
	}
}

// P1: all arguments but numbers may have any value.
func TestAnyArguments(t *testing.T) {
	r := rand.New(rand.NewPCG(10, 16))
	list := func(n int) []api.Rat {
		if r.IntN(3) == 0 {
			n += r.IntN(3) - 1
		}
		return numbers(smallInts(r, max(0, n), 3))
	}
	counts := map[api.Errno]int{}
	for range 4000 {
		vars := r.IntN(5) - 1
		c := call{p: api.Program{Vars: vars, Goal: list(vars)}, goal: list(vars)}
		for range r.IntN(4) {
			c.p.Lines = append(c.p.Lines, api.Line{A: list(vars), B: rat.Of(r.IntN(5)-2, 1+r.IntN(3))})
		}
		for range len(c.p.Lines) + max(0, r.IntN(5)-3) {
			c.groups = append(c.groups, []int{0, 1, 2, -1, r.Int(), math.MaxInt, -r.IntN(3)}[r.IntN(7)])
		}
		c.a = api.Answer{Kind: r.IntN(5) - 1, X: list(vars), Y: list(max(vars, len(c.p.Lines))), Value: rat.Of(r.IntN(3), 2)}
		_, e := simplex.Solve(c.p)
		formed := vars >= 0 && len(c.p.Goal) == vars && !slices.ContainsFunc(c.p.Lines, func(l api.Line) bool { return len(l.A) != vars })
		if formed != (e == api.OK) || !formed && e != api.ErrArg {
			t.Fatalf("P10.1: Solve returns %d: %v", e, c.p)
		}
		counts[e]++
		checked := simplex.Check(c.p, c.a)
		if formed && checked != api.OK && checked != api.ErrProof || !formed && checked != api.ErrArg {
			t.Fatalf("P10.2: Check is %d: %v", checked, c)
		}
		if _, _, e := simplex.Range(c.p, c.goal); (e == api.OK) != (formed && len(c.goal) == vars) {
			t.Fatalf("P10.3: Range returns %d: %v", e, c)
		}
		_, e = simplex.Core(c.p, c.groups)
		fit := formed && len(c.groups) == len(c.p.Lines) && !slices.ContainsFunc(c.groups, func(g int) bool { return g < -1 })
		if fit != (e != api.ErrArg) {
			t.Fatalf("P10.4: Core returns %d: %v", e, c)
		}
	}
	if counts[api.OK] < 500 || counts[api.ErrArg] < 500 {
		t.Error("too few programs are well-formed, or too many:", counts)
	}
}

func TestCallsAtTheSameTime(t *testing.T) {
	all := calls()
	var want []string
	for _, c := range all {
		want = append(want, c.results())
	}
	var group sync.WaitGroup
	for k := range 8 {
		group.Go(func() {
			for i := range all {
				j := (7*i + k) % len(all)
				if all[j].results() != want[j] {
					t.Errorf("call %d: the results of %d differ", k, j)
				}
			}
		})
	}
	group.Wait()
}
