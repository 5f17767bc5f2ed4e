package simplex_test

import (
	"math"
	"math/rand/v2"
	"slices"
	"testing"

	"sherd/api"
	"sherd/simplex"
)

// contradictory reports whether no point satisfies all lines of some groups and those of the group -1.
func contradictory(p program, groups, list []int) bool {
	part := program{goal: zeros(p.vars())}
	for k, g := range groups {
		if g == -1 || slices.Contains(list, g) {
			part.lines = append(part.lines, p.lines[k])
		}
	}
	if p.vars() < 4 {
		kind, _ := part.solve()
		return kind == api.Infeasible
	}
	// The answer is a proof for itself.
	got, _ := simplex.Solve(part.given())
	if !part.right(read(got)) {
		panic("an answer is not right")
	}
	return got.Kind == api.Infeasible
}

// without returns the elements of a list but one.
func without(list []int, g int) []int {
	return slices.DeleteFunc(slices.Clone(list), func(x int) bool { return x == g })
}

// core follows the wording of the chapter.
func core(p program, groups []int) ([]int, api.Errno) {
	var list []int
	for _, g := range groups {
		if g != -1 && !slices.Contains(list, g) {
			list = append(list, g)
		}
	}
	slices.Sort(list)
	if !contradictory(p, groups, list) {
		return nil, api.ErrNone
	}
	for _, g := range slices.Clone(list) {
		if contradictory(p, groups, without(list, g)) {
			list = without(list, g)
		}
	}
	return list, api.OK
}

func TestKnownCores(t *testing.T) {
	example := of([]int{1, 1}, []int{1, 0, 2}, []int{0, 1, 3}, []int{1, 1, 4}, []int{-1, 0, -3})
	triangle := of([]int{0, 0}, []int{-1, 0, 0}, []int{0, -1, 0}, []int{1, 1, -1})
	twice := of([]int{0}, []int{1, 0}, []int{-1, -1}, []int{1, -3}, []int{-1, -9})
	far := math.MaxInt
	for _, c := range []struct {
		name   string
		p      program
		groups []int
		want   []int
		e      api.Errno
	}{
		{"the example", example, []int{0, 1, 2, 3}, []int{0, 3}, api.OK},
		{"the example in another order", example, []int{9, 7, 5, 2}, []int{2, 9}, api.OK},
		{"the example with a line of no group", example, []int{-1, 1, 2, 3}, []int{3}, api.OK},
		{"the example with the other line of no group", example, []int{4, 1, 2, -1}, []int{4}, api.OK},
		{"the example with both lines of no group", example, []int{-1, 1, 2, -1}, nil, api.OK},
		{"the example in one group", example, []int{5, 5, 5, 5}, []int{5}, api.OK},
		{"the example with both lines in one group", example, []int{5, 1, 2, 5}, []int{5}, api.OK},
		{"the example with great numbers", example, []int{far, 0, 3, far - 1}, []int{far - 1, far}, api.OK},
		{"only -1", example, []int{-1, -1, -1, -1}, nil, api.OK},
		{"only -1, not contradictory", of([]int{0}, []int{1, 2}, []int{-1, -2}), []int{-1, -1}, nil, api.ErrNone},
		{"every group is needed", triangle, []int{0, 1, 2}, []int{0, 1, 2}, api.OK},
		{"every group is needed, not in order", triangle, []int{8, 4, 6}, []int{4, 6, 8}, api.OK},
		{"every group but -1 is needed", triangle, []int{8, -1, 6}, []int{6, 8}, api.OK},
		{"a group twice is needed", triangle, []int{8, 4, 8}, []int{4, 8}, api.OK},
		{"the last of several ways", twice, []int{0, 1, 2, 3}, []int{2, 3}, api.OK},
		{"the last of several ways, otherwise named", twice, []int{3, 2, 1, 0}, []int{2, 3}, api.OK},
		{"one of several suffices", of([]int{0}, []int{0, -1}, []int{0, -2}, []int{0, -3}), []int{4, 2, 6}, []int{6}, api.OK},
		{"-1 alone is contradictory", of([]int{0}, []int{0, -1}, []int{1, 5}, []int{-1, -6}), []int{-1, 0, 1}, nil, api.OK},
		{"a line of zeros", of([]int{0}, []int{1, 5}, []int{0, 0}, []int{0, -1}), []int{0, 1, 2}, []int{2}, api.OK},
		{"not contradictory", of([]int{0}, []int{1, 5}, []int{-1, -5}, []int{0, 0}), []int{0, 1, 2}, nil, api.ErrNone},
		{"nothing", of(nil), nil, nil, api.ErrNone},
		{"no lines", of([]int{1, 2}), []int{}, nil, api.ErrNone},
		{"no variables", of(nil, []int{1}, []int{-1}, []int{-2}), []int{1, 0, 0}, []int{0}, api.OK},
		{"no variables, one group after the other", of(nil, []int{1}, []int{-1}, []int{-2}), []int{0, 1, 2}, []int{2}, api.OK},
		{"no variables, not contradictory", of(nil, []int{1}, []int{0}), []int{0, 1}, nil, api.ErrNone},
	} {
		got, e := simplex.Core(c.p.given(), c.groups)
		if e != c.e || !slices.Equal(got, c.want) {
			t.Errorf("P10.4: Core returns %v and %d, not %v and %d: %s", got, e, c.want, c.e, c.name)
		}
		if want, e := core(c.p, c.groups); e != c.e || !slices.Equal(want, c.want) {
			t.Errorf("the model returns %v and %d: %s", want, e, c.name)
		}
	}
}

// someGroups returns groups of lines that are in no order; some are -1.
func someGroups(r *rand.Rand, lines, most int) []int {
	groups := make([]int, lines)
	for k := range groups {
		groups[k] = r.IntN(most+1) - 1
		if groups[k] > 0 && r.IntN(4) == 0 {
			groups[k] *= 1 << 40
		}
	}
	return groups
}

// checkCore compares Core with the wording, and checks that each of its groups is needed.
func checkCore(t *testing.T, p program, groups []int) []int {
	t.Helper()
	got, e := simplex.Core(p.given(), groups)
	want, f := core(p, groups)
	if e != f || !slices.Equal(got, want) {
		t.Fatalf("P10.4: Core returns %v and %d, not %v and %d: %v %s", got, e, want, f, groups, show(p))
	}
	if e != api.OK {
		return nil
	}
	if !contradictory(p, groups, got) {
		t.Fatalf("P10.8: the list %v is not contradictory: %v %s", got, groups, show(p))
	}
	for _, g := range got {
		if contradictory(p, groups, without(got, g)) {
			t.Fatalf("P10.8: the list %v is contradictory without %d: %v %s", got, g, groups, show(p))
		}
	}
	return got
}

func TestSomeCores(t *testing.T) {
	r := rand.New(rand.NewPCG(10, 9))
	counts := map[int]int{}
	for k := range 1200 {
		p := someProgram(r, r.IntN(4), 4+r.IntN(8))
		if k%9 == 0 {
			p = inFrame(r, p, 1+k/60)
		}
		counts[len(checkCore(t, p, someGroups(r, len(p.lines), 1+r.IntN(12))))]++
	}
	for n := range 4 {
		if counts[n] < 20 {
			t.Error("too few lists of", n, "groups:", counts)
		}
	}
}

// Many variables, so that many groups are needed.
func TestLongCores(t *testing.T) {
	r := rand.New(rand.NewPCG(10, 10))
	for k := range 8 {
		p := dense(r, 4+k, 3*(4+k), func() int { return r.IntN(12) - 7 })
		groups := make([]int, len(p.lines))
		for k := range groups {
			groups[k] = len(groups) - k
		}
		if k%2 == 0 {
			groups = someGroups(r, len(p.lines), 20)
		}
		checkCore(t, p, groups)
	}
	// Each variable is less than the one before it, and the first one is less than the last one.
	n := api.MaxVars
	p := program{goal: zeros(n)}
	var groups, want []int
	for k := range n {
		a := zeros(n)
		a[k], a[(k+1)%n] = whole(-1), whole(1)
		p.lines = append(p.lines, line{a, whole(-1)})
		groups, want = append(groups, 3*k), append(want, 3*k)
	}
	for k := range api.MaxLines - n {
		a := zeros(n)
		a[k%n] = whole(1)
		p.lines = append(p.lines, line{a, whole(k)})
		groups = append(groups, 3*k+1)
	}
	if got, e := simplex.Core(p.given(), groups); e != api.OK || !slices.Equal(got, want) {
		t.Errorf("P10.4: Core returns %v and %d for a circle", got, e)
	}
}

func TestCoreErrors(t *testing.T) {
	check := func(name string, p api.Program, groups []int, want api.Errno) {
		t.Helper()
		if got, e := simplex.Core(p, groups); e != want || len(got) > 0 {
			t.Errorf("P10.4: Core returns %v and %d, not %d: %s", got, e, want, name)
		}
	}
	for _, c := range wrongPrograms() {
		for _, groups := range [][]int{nil, {-2}, make([]int, len(c.p.Lines))} {
			check(c.name, c.p, groups, c.want)
		}
	}
	clash := of([]int{1}, []int{1, 2}, []int{-1, -3}, []int{1, 7})
	fine := of([]int{1}, []int{1, 2}, []int{-1, -1}, []int{1, 7})
	for _, p := range []program{clash, fine} {
		for _, c := range []struct {
			name   string
			groups []int
		}{
			{"too few groups", []int{0, 1}}, {"no groups", nil}, {"too many groups", []int{0, 1, 2, 3}}, {"far too many groups", make([]int, 1000)},
			{"a group below -1", []int{0, -2, 1}}, {"the first group below -1", []int{-2, 0, 1}}, {"the last group below -1", []int{-1, -1, -2}}, {"the least int", []int{0, 1, math.MinInt}},
		} {
			check(c.name, p.given(), c.groups, api.ErrArg)
		}
	}
	check("groups of no lines", api.Program{}, []int{0}, api.ErrArg)
	check("a list that is not contradictory", fine.given(), []int{0, 1, 2}, api.ErrNone)
}
