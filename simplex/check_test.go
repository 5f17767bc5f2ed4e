package simplex_test

import (
	"math"
	"math/big"
	"math/rand/v2"
	"slices"
	"testing"

	"sherd/api"
	"sherd/rat"
	"sherd/simplex"
)

// half returns the list of the halves of some integers.
func half(l ...int) vec { return scale(ints(l...), big.NewRat(1, 2)) }

func TestKnownChecks(t *testing.T) {
	example := of([]int{1, 1}, []int{1, 0, 2}, []int{0, 1, 3}, []int{1, 1, 4})
	none := example.with(line{ints(-1, 0), whole(-3)})
	endless := of([]int{1, -1}, []int{0, 1, 3})
	nothing, bare, closed := of(nil), of([]int{0, 0}), of(nil, []int{2}, []int{-3})
	zero := of([]int{0}, []int{1, 0}, []int{-1, 0})
	steep := of([]int{3}, []int{-1, 0}, []int{0, 5})
	little := small(30)
	for _, c := range []struct {
		name  string
		p     program
		a     answer
		right bool
	}{
		// A greatest value, at any of its points, by any proof.
		{"an end of the side", example, answer{api.Optimal, ints(2, 2), ints(0, 0, 1), whole(4)}, true},
		{"the other end", example, answer{api.Optimal, ints(1, 3), ints(0, 0, 1), whole(4)}, true},
		{"between", example, answer{api.Optimal, half(3, 5), ints(0, 0, 1), whole(4)}, true},
		{"before the end", example, answer{api.Optimal, ints(2, 1), ints(0, 0, 1), whole(4)}, false},
		{"before the end, with its value", example, answer{api.Optimal, ints(2, 1), ints(0, 0, 1), whole(3)}, false},
		{"behind the end", example, answer{api.Optimal, ints(0, 4), ints(0, 0, 1), whole(4)}, false},
		{"just behind the end", example, answer{api.Optimal, vec{less(whole(1), little), plus(whole(3), little)}, ints(0, 0, 1), whole(4)}, false},
		{"just above the side", example, answer{api.Optimal, vec{whole(2), plus(whole(2), little)}, ints(0, 0, 1), whole(4)}, false},
		{"another bound", example, answer{api.Optimal, ints(2, 2), ints(1, 1, 0), whole(4)}, false},
		{"another bound with its value", example, answer{api.Optimal, ints(2, 3), ints(1, 1, 0), whole(5)}, false},
		{"a mixed bound", example, answer{api.Optimal, ints(2, 2), half(1, 1, 1), whole(4)}, false},
		{"another value", example, answer{api.Optimal, ints(2, 2), ints(0, 0, 1), whole(5)}, false},
		{"a little more value", example, answer{api.Optimal, ints(2, 2), ints(0, 0, 1), plus(whole(4), little)}, false},
		{"no value", example, answer{api.Optimal, ints(2, 2), ints(0, 0, 1), whole(0)}, false},
		{"an element below 0 that is made up for", of([]int{1}, []int{1, 2}, []int{2, 4}, []int{1, 9}), answer{api.Optimal, ints(2), ints(3, -1, 0), whole(2)}, false},
		{"a line twice", of([]int{1}, []int{1, 2}, []int{2, 4}, []int{1, 9}), answer{api.Optimal, ints(2), vec{big.NewRat(1, 3), big.NewRat(1, 3), whole(0)}, whole(2)}, true},
		{"a line twice, too often", of([]int{1}, []int{1, 2}, []int{2, 4}, []int{1, 9}), answer{api.Optimal, ints(2), vec{big.NewRat(1, 2), big.NewRat(1, 3), whole(0)}, whole(2)}, false},
		{"an equation's lines against each other", zero, answer{api.Optimal, ints(0), ints(5, 5), whole(0)}, true},
		{"an equation's lines, one of them more often", zero, answer{api.Optimal, ints(0), ints(5, 6), whole(0)}, false},
		{"a line of zeros too often", of([]int{1}, []int{1, 2}, []int{0, 0}), answer{api.Optimal, ints(2), ints(1, 77), whole(2)}, true},
		{"a line of zeros and 1", of([]int{1}, []int{1, 2}, []int{0, 1}), answer{api.Optimal, ints(2), ints(1, 1), whole(2)}, false},
		{"X too short", example, answer{api.Optimal, ints(4), ints(0, 0, 1), whole(4)}, false},
		{"X too long", example, answer{api.Optimal, ints(2, 2, 0), ints(0, 0, 1), whole(4)}, false},
		{"X empty", example, answer{api.Optimal, nil, ints(0, 0, 1), whole(4)}, false},
		{"Y too short", example, answer{api.Optimal, ints(2, 2), ints(0, 0), whole(4)}, false},
		{"Y too long", example, answer{api.Optimal, ints(2, 2), ints(0, 0, 1, 0), whole(4)}, false},
		{"Y empty", example, answer{api.Optimal, ints(2, 2), nil, whole(4)}, false},
		{"all empty", example, answer{api.Optimal, nil, nil, whole(0)}, false},
		// Nothing at all, and no lines or no variables.
		{"nothing", nothing, answer{api.Optimal, nil, nil, whole(0)}, true},
		{"nothing, with a value", nothing, answer{api.Optimal, nil, nil, whole(1)}, false},
		{"nothing, with a point", nothing, answer{api.Optimal, ints(0), nil, whole(0)}, false},
		{"nothing, with a proof", nothing, answer{api.Optimal, nil, ints(0), whole(0)}, false},
		{"nothing, without a point", nothing, answer{api.Infeasible, nil, nil, whole(0)}, false},
		{"nothing, without an end", nothing, answer{api.Unbounded, nil, nil, whole(0)}, false},
		{"no lines", bare, answer{api.Optimal, ints(7, -9), nil, whole(0)}, true},
		{"no lines, with a value", bare, answer{api.Optimal, ints(7, -9), nil, whole(-2)}, false},
		{"no lines, without a point", bare, answer{api.Infeasible, nil, nil, whole(0)}, false},
		{"no lines, without an end", bare, answer{api.Unbounded, ints(7, -9), ints(1, 0), whole(0)}, false},
		{"no lines, really without an end", of([]int{2}), answer{api.Unbounded, ints(7), ints(1), whole(0)}, true},
		{"no variables", of(nil, []int{2}, []int{0}), answer{api.Optimal, nil, ints(0, 5), whole(0)}, true},
		{"no variables, with a bound", of(nil, []int{2}, []int{0}), answer{api.Optimal, nil, ints(1, 5), whole(0)}, false},
		{"no variables and no point", closed, answer{api.Infeasible, nil, ints(0, 1), whole(0)}, true},
		{"no variables and no point, by both", closed, answer{api.Infeasible, nil, ints(1, 1), whole(0)}, true},
		{"no variables and no point, not enough", closed, answer{api.Infeasible, nil, ints(3, 2), whole(0)}, false},
		{"no variables and no point, optimal", closed, answer{api.Optimal, nil, ints(0, 0), whole(0)}, false},
		// No point.
		{"a contradiction", none, answer{api.Infeasible, nil, ints(1, 0, 0, 1), whole(0)}, true},
		{"a multiple of it", none, answer{api.Infeasible, nil, half(3, 0, 0, 3), whole(0)}, true},
		{"one in which there is more", none, answer{api.Infeasible, nil, ints(1, 0, 0, 2), whole(0)}, false},
		{"none of it", none, answer{api.Infeasible, nil, ints(0, 0, 0, 0), whole(0)}, false},
		{"below 0", none, answer{api.Infeasible, nil, ints(-1, 0, 0, -1), whole(0)}, false},
		{"lines that only leave one point", zero, answer{api.Infeasible, nil, ints(1, 1), whole(0)}, false},
		{"no contradiction", example, answer{api.Infeasible, nil, ints(0, 0, 0), whole(0)}, false},
		{"a contradiction with a point", none, answer{api.Infeasible, ints(2, 2), ints(1, 0, 0, 1), whole(0)}, false},
		{"a contradiction with a value", none, answer{api.Infeasible, nil, ints(1, 0, 0, 1), whole(-1)}, false},
		{"a contradiction with a little value", none, answer{api.Infeasible, nil, ints(1, 0, 0, 1), little}, false},
		{"a contradiction, too short", none, answer{api.Infeasible, nil, ints(1, 0, 0), whole(0)}, false},
		{"a contradiction, too long", none, answer{api.Infeasible, nil, ints(1, 0, 0, 1, 0), whole(0)}, false},
		{"a contradiction, empty", none, answer{api.Infeasible, nil, nil, whole(0)}, false},
		{"an element below 0 in a contradiction", of([]int{1}, []int{1, 2}, []int{1, 5}), answer{api.Infeasible, nil, ints(1, -1), whole(0)}, false},
		{"a line of zeros is enough", of([]int{1}, []int{1, 2}, []int{0, -1}), answer{api.Infeasible, nil, vec{whole(0), little}, whole(0)}, true},
		{"a point where there is none", none, answer{api.Optimal, ints(2, 2), ints(0, 0, 1, 0), whole(4)}, false},
		// No greatest value.
		{"a way", endless, answer{api.Unbounded, ints(0, 0), ints(1, 0), whole(0)}, true},
		{"another way from elsewhere", endless, answer{api.Unbounded, ints(9, 3), ints(1, -9), whole(0)}, true},
		{"a way that a line ends", endless, answer{api.Unbounded, ints(0, 0), ints(9, 1), whole(0)}, false},
		{"a way that a line ends slowly", endless, answer{api.Unbounded, ints(0, 0), vec{whole(9), little}, whole(0)}, false},
		{"a way from nowhere", endless, answer{api.Unbounded, ints(0, 4), ints(1, 0), whole(0)}, false},
		{"a way from just outside", endless, answer{api.Unbounded, vec{whole(0), plus(whole(3), little)}, ints(1, 0), whole(0)}, false},
		{"a way on which nothing grows", endless, answer{api.Unbounded, ints(0, 0), ints(-1, -1), whole(0)}, false},
		{"a way on which the goal becomes less", endless, answer{api.Unbounded, ints(0, 0), ints(-1, 0), whole(0)}, false},
		{"no way", endless, answer{api.Unbounded, ints(0, 0), ints(0, 0), whole(0)}, false},
		{"a way with a value", endless, answer{api.Unbounded, ints(5, 0), ints(1, 0), whole(5)}, false},
		{"a way, too short", endless, answer{api.Unbounded, ints(0, 0), ints(1), whole(0)}, false},
		{"a way, too long", endless, answer{api.Unbounded, ints(0, 0), ints(1, 0, 0), whole(0)}, false},
		{"a way, empty", endless, answer{api.Unbounded, ints(0, 0), nil, whole(0)}, false},
		{"a way from a point that is too short", endless, answer{api.Unbounded, ints(0), ints(1, 0), whole(0)}, false},
		{"a way from a point that is too long", endless, answer{api.Unbounded, ints(0, 0, 0), ints(1, 0), whole(0)}, false},
		{"a way from an empty point", endless, answer{api.Unbounded, nil, ints(1, 0), whole(0)}, false},
		{"a way where the value is greatest", example, answer{api.Unbounded, ints(0, 0), ints(1, 1), whole(0)}, false},
		{"a way as long as the lines", steep, answer{api.Unbounded, ints(4), ints(1, 0), whole(0)}, false},
		{"a way as long as the variables", steep, answer{api.Unbounded, ints(4), ints(1), whole(0)}, true},
		// Other kinds.
		{"the kind -1", example, answer{-1, ints(2, 2), ints(0, 0, 1), whole(4)}, false},
		{"the kind 3", example, answer{3, ints(2, 2), ints(0, 0, 1), whole(4)}, false},
		{"the least kind", example, answer{math.MinInt, ints(2, 2), ints(0, 0, 1), whole(4)}, false},
		{"the greatest kind", nothing, answer{math.MaxInt, nil, nil, whole(0)}, false},
		{"an optimal one as infeasible", example, answer{api.Infeasible, ints(2, 2), ints(0, 0, 1), whole(4)}, false},
		{"an optimal one as unbounded", example, answer{api.Unbounded, ints(2, 2), ints(0, 0, 1), whole(4)}, false},
		{"an infeasible one as optimal", none, answer{api.Optimal, nil, ints(1, 0, 0, 1), whole(0)}, false},
		{"an unbounded one as optimal", endless, answer{api.Optimal, ints(0, 0), ints(1, 0), whole(0)}, false},
	} {
		want := api.ErrProof
		if c.right {
			want = api.OK
		}
		if c.p.right(c.a) != c.right {
			t.Errorf("the model is wrong: %s", c.name)
		}
		if got := simplex.Check(c.p.given(), c.a.given()); got != want {
			t.Errorf("P10.2: Check is %d, not %d: %s", got, want, c.name)
		}
	}
}

// changed returns an answer in which something is changed, mostly one number.
func changed(r *rand.Rand, a answer) answer {
	b := answer{a.kind, slices.Clone(a.x), slices.Clone(a.y), a.value}
	by := []*big.Rat{whole(1), whole(-1), small(r.IntN(40)), minus(small(r.IntN(40)))}[r.IntN(4)]
	one := func(l vec) {
		if len(l) > 0 {
			k := r.IntN(len(l))
			l[k] = plus(l[k], by)
		}
	}
	switch r.IntN(8) {
	case 0, 1:
		one(b.x)
	case 2, 3:
		one(b.y)
	case 4:
		b.value = plus(b.value, by)
	case 5:
		b.kind = r.IntN(5) - 1
	case 6:
		if r.IntN(2) == 0 {
			b.x = append(b.x, whole(0))
		} else {
			b.x = b.x[:max(0, len(b.x)-1)]
		}
	case 7:
		if r.IntN(2) == 0 {
			b.y = append(b.y, whole(0))
		} else {
			b.y = b.y[:max(0, len(b.y)-1)]
		}
	}
	return b
}

// Answers in which one number is changed, of all kinds, against the wording of the chapter.
func TestChangedAnswers(t *testing.T) {
	r := rand.New(rand.NewPCG(10, 6))
	counts := map[int]int{}
	for range 1500 {
		p := someProgram(r, r.IntN(4), r.IntN(7))
		if r.IntN(3) == 0 {
			p = inFrame(r, p, 1+r.IntN(12))
		}
		a := solved(t, p)
		for range 12 {
			b := changed(r, a)
			want := api.ErrProof
			if p.right(b) {
				want = api.OK
				counts[b.kind]++
			}
			if got := simplex.Check(p.given(), b.given()); got != want {
				t.Fatalf("P10.2: Check of %s is %d, not %d: %s", show(b), got, want, show(p))
			}
		}
	}
	for kind := range 3 {
		if counts[kind] < 150 {
			t.Error("too few changed answers are still right:", counts)
		}
	}
}

// Answers that are right, but not those of Solve: points between two points, and proofs mixed of two proofs.
func TestOtherAnswers(t *testing.T) {
	r := rand.New(rand.NewPCG(10, 7))
	part := big.NewRat(2, 7)
	mixed := func(v, w vec) vec { return add(scale(v, part), scale(w, less(whole(1), part))) }
	counts := map[int]int{}
	for range 2000 {
		p := someProgram(r, 1+r.IntN(3), 1+r.IntN(8))
		order := r.Perm(len(p.lines))
		q := program{goal: p.goal}
		for _, k := range order {
			q.lines = append(q.lines, p.lines[k])
		}
		a, b := solved(t, p), solved(t, q)
		c := answer{a.kind, mixed(a.x, b.x), nil, a.value}
		if a.kind == api.Unbounded {
			c.y = mixed(a.y, b.y)
		} else {
			back := zeros(len(p.lines))
			for k, at := range order {
				back[at] = b.y[k]
			}
			c.y = mixed(a.y, back)
		}
		if !same(a.x, c.x) || !same(a.y, c.y) {
			counts[a.kind]++
		}
		if got := simplex.Check(p.given(), c.given()); got != api.OK || !p.right(c) {
			t.Fatalf("P10.2: Check of %s, which is right, is %d: %s", show(c), got, show(p))
		}
	}
	for kind := range 3 {
		if counts[kind] < 40 {
			t.Error("too few answers are others than those of Solve:", counts)
		}
	}
}

func TestCheckErrors(t *testing.T) {
	for _, c := range wrongPrograms() {
		for _, a := range []api.Answer{{}, {X: c.p.Goal}, {Kind: api.Infeasible}, {Kind: api.Unbounded, Value: rat.Of(1, 2)}, {Kind: 7}} {
			if e := simplex.Check(c.p, a); e != c.want {
				t.Errorf("P10.2: Check is %d, not %d: %s", e, c.want, c.name)
			}
		}
	}
}
