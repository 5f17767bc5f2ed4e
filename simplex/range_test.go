package simplex_test

import (
	"math/rand/v2"
	"reflect"
	"testing"

	"sherd/api"
	"sherd/simplex"
)

// checkRange compares Range with Solve.
func checkRange(t *testing.T, p program, goal vec) (answer, answer) {
	t.Helper()
	least, greatest, e := simplex.Range(p.given(), numbers(goal))
	if e != api.OK {
		t.Fatalf("P10.3: Range returns the error %d: %s", e, show(p))
	}
	low, high := p.to(scale(goal, whole(-1))), p.to(goal)
	if !low.right(read(least)) || !high.right(read(greatest)) {
		t.Fatalf("P10.3: an answer is not right: %s and %s: %s", show(least), show(greatest), show(p))
	}
	for _, c := range []struct {
		p   program
		got api.Answer
	}{{low, least}, {high, greatest}} {
		if want, _ := simplex.Solve(c.p.given()); !reflect.DeepEqual(read(c.got), read(want)) {
			t.Fatalf("P10.3: Range returns %s, and Solve %s: %s", show(c.got), show(want), show(c.p))
		}
	}
	return read(least), read(greatest)
}

func TestKnownRanges(t *testing.T) {
	example := of([]int{1, 1}, []int{1, 0, 2}, []int{0, 1, 3}, []int{1, 1, 4})
	square := of([]int{0, 0}, []int{1, 0, 2}, []int{-1, 0, 1}, []int{0, 1, 5}, []int{0, -1, -3})
	for _, c := range []struct {
		name     string
		p        program
		goal     vec
		low      int
		least    int
		high     int
		greatest int
	}{
		{"a sum below only", example, ints(1, 1), api.Unbounded, 0, api.Optimal, 4},
		{"a difference", example, ints(1, -1), api.Unbounded, 0, api.Unbounded, 0},
		{"a goal of zeros", example, ints(0, 0), api.Optimal, 0, api.Optimal, 0},
		{"a square", square, ints(2, 1), api.Optimal, -1, api.Optimal, 9},
		{"a side of it", square, ints(0, 1), api.Optimal, -3, api.Optimal, 5},
		{"no point", example.with(line{ints(-1, 0), whole(-3)}), ints(0, 1), api.Infeasible, 0, api.Infeasible, 0},
		{"nothing", of(nil), nil, api.Optimal, 0, api.Optimal, 0},
		{"no lines", of([]int{0}), ints(1), api.Unbounded, 0, api.Unbounded, 0},
		{"no variables", of(nil, []int{4}), nil, api.Optimal, 0, api.Optimal, 0},
	} {
		least, greatest := checkRange(t, c.p, c.goal)
		if least.kind != c.low || greatest.kind != c.high || least.value.Cmp(whole(c.least)) != 0 || greatest.value.Cmp(whole(c.greatest)) != 0 {
			t.Errorf("P10.3: Range returns %s and %s: %s", show(least), show(greatest), c.name)
		}
	}
}

func TestSomeRanges(t *testing.T) {
	r := rand.New(rand.NewPCG(10, 8))
	counts := map[[2]int]int{}
	for k := range 1500 {
		p := someProgram(r, r.IntN(5), r.IntN(9))
		if k%5 == 0 {
			p = inFrame(r, p, 1+k/60)
		}
		goal := smallInts(r, p.vars(), 4)
		if k%7 == 0 {
			goal = p.goal
		}
		least, greatest := checkRange(t, p, goal)
		counts[[2]int{least.kind, greatest.kind}]++
		if least.kind == api.Optimal && greatest.kind == api.Optimal && plus(least.value, greatest.value).Sign() < 0 {
			t.Fatalf("P10.3: the least value is greater than the greatest one: %s and %s: %s", show(least), show(greatest), show(p))
		}
	}
	for _, kinds := range [][2]int{{0, 0}, {0, 2}, {2, 0}, {1, 1}, {2, 2}} {
		if counts[kinds] < 50 {
			t.Error("too few ranges of the kinds", kinds, counts)
		}
	}
}

func TestRangeErrors(t *testing.T) {
	check := func(name string, p api.Program, goal []api.Rat, want api.Errno) {
		t.Helper()
		if a, b, e := simplex.Range(p, goal); e != want || !isZero(a) || !isZero(b) {
			t.Errorf("P10.3: Range returns %s, %s and %d, not %d: %s", show(a), show(b), e, want, name)
		}
	}
	for _, c := range wrongPrograms() {
		for _, goal := range [][]api.Rat{nil, c.p.Goal, make([]api.Rat, 1), make([]api.Rat, max(0, min(c.p.Vars, 100)))} {
			check(c.name, c.p, goal, c.want)
		}
	}
	p := of([]int{1, 1}, []int{1, 0, 2}, []int{0, 1, 3})
	for _, n := range []int{0, 1, 3, 48, 49, 100} {
		check("a goal of the wrong length", p.given(), make([]api.Rat, n), api.ErrArg)
		check("a goal of the wrong length where there is no point", p.with(line{ints(0, 0), whole(-1)}).given(), make([]api.Rat, n), api.ErrArg)
	}
	check("a goal where there are no variables", api.Program{}, make([]api.Rat, 1), api.ErrArg)
}
