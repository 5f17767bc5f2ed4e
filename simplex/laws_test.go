package simplex_test

import (
	"math/big"
	"math/rand/v2"
	"slices"
	"testing"

	"sherd/api"
	"sherd/simplex"
)

// P10.5: no feasible point is worth more than any bound, and no two answers of other kinds or values are right.
func TestDuality(t *testing.T) {
	r := rand.New(rand.NewPCG(10, 11))
	exact := 0
	for k := range 1000 {
		n, m := 1+r.IntN(5), 1+r.IntN(9)
		x, y := smallInts(r, n, 5), vec{}
		p := program{goal: zeros(n)}
		for range m {
			a := smallInts(r, n, 4)
			room, much := whole(r.IntN(3)), whole(r.IntN(3))
			if k%2 == 0 && much.Sign() > 0 {
				// Where lines with a share in the bound leave no room, the point is worth as much as the bound.
				room = whole(0)
			}
			p.lines = append(p.lines, line{a, plus(dot(a, x), room)})
			p.goal, y = add(p.goal, scale(a, much)), append(y, much)
		}
		_, bound := p.sums(y)
		a := solved(t, p)
		if a.kind != api.Optimal || dot(p.goal, x).Cmp(a.value) > 0 || a.value.Cmp(bound) > 0 {
			t.Fatalf("P10.5: the answer is %s, for a point that is worth %s and a bound of %s: %s", show(a), show(dot(p.goal, x)), show(bound), show(p))
		}
		if dot(p.goal, x).Cmp(bound) == 0 {
			exact++
			if got := simplex.Check(p.given(), answer{api.Optimal, x, y, bound}.given()); got != api.OK {
				t.Fatalf("P10.5: Check is %d for a point that is worth its bound: %s", got, show(p))
			}
		} else if got := simplex.Check(p.given(), answer{api.Optimal, x, y, bound}.given()); got != api.ErrProof {
			t.Fatalf("P10.5: Check is %d for a point that is worth less than its bound: %s", got, show(p))
		}
	}
	if exact < 150 {
		t.Error("too few points are worth their bounds:", exact)
	}
}

// P10.5: answers of several programs for the same lines and the same goal, each shown to the others.
func TestOneKindOnly(t *testing.T) {
	r := rand.New(rand.NewPCG(10, 12))
	accepted := 0
	for range 150 {
		n := 1 + r.IntN(3)
		var all []program
		for range 6 {
			all = append(all, someProgram(r, n, 5))
		}
		var answers []answer
		for _, p := range all {
			a := solved(t, p)
			answers = append(answers, a, answer{a.kind, a.x, a.y, plus(a.value, whole(1))}, answer{(a.kind + 1) % 3, a.x, a.y, a.value}, answer{(a.kind + 2) % 3, nil, a.y, new(big.Rat)})
		}
		for _, p := range all {
			kind, value := p.solve()
			for _, a := range answers {
				got := simplex.Check(p.given(), a.given())
				if got == api.OK && (a.kind != kind || a.value.Cmp(value) != 0) {
					t.Fatalf("P10.5: Check accepts %s, of another kind than %d or another value than %s: %s", show(a), kind, show(value), show(p))
				}
				if got == api.OK {
					accepted++
				}
			}
		}
	}
	if accepted < 150*6 {
		t.Error("too few answers are accepted:", accepted)
	}
}

// P10.6: lines that are multiplied, exchanged or doubled, and points that are moved.
func TestSame(t *testing.T) {
	r := rand.New(rand.NewPCG(10, 13))
	counts := [3]int{}
	for k := range 800 {
		p := someProgram(r, 1+r.IntN(6), 1+r.IntN(12))
		a := solved(t, p)
		counts[a.kind]++
		stays := func(name string, q program, value *big.Rat) {
			t.Helper()
			if b := solved(t, q); b.kind != a.kind || b.value.Cmp(value) != 0 {
				t.Fatalf("P10.6: the answer is %s, and %s %s: %s", show(a), name, show(b), show(p))
			}
		}
		at := r.IntN(len(p.lines))
		by := size(random(r, 1+k%12))
		if by.Sign() == 0 {
			by = big.NewRat(1, 3)
		}
		q := program{slices.Clone(p.lines), p.goal}
		q.lines[at] = line{scale(p.lines[at].a, by), times(p.lines[at].b, by)}
		stays("for a line multiplied by "+show(by), q, a.value)
		stays("for a line twice", p.with(p.lines[at]), a.value)
		stays("for all lines twice", p.with(p.lines...), a.value)
		q = program{slices.Clone(p.lines), p.goal}
		r.Shuffle(len(q.lines), func(i, j int) { q.lines[i], q.lines[j] = q.lines[j], q.lines[i] })
		stays("for other places of the lines", q, a.value)
		to := randomVec(r, p.vars(), 1+k%12)
		q = program{goal: p.goal}
		for _, l := range p.lines {
			q.lines = append(q.lines, line{l.a, plus(l.b, dot(l.a, to))})
		}
		value := a.value
		if a.kind == api.Optimal {
			value = plus(value, dot(p.goal, to))
		}
		stays("for points moved by "+show(to), q, value)
	}
	for kind, n := range counts {
		if n < 30 {
			t.Error("too few programs of a kind:", kind, counts)
		}
	}
}

// P10.7: line after line.
func TestMoreLines(t *testing.T) {
	r := rand.New(rand.NewPCG(10, 14))
	less, ended := 0, 0
	for range 400 {
		p := someProgram(r, 1+r.IntN(4), 14)
		var before answer
		for n := range len(p.lines) + 1 {
			a := solved(t, program{p.lines[:n], p.goal})
			switch {
			case n == 0:
			case before.kind == api.Infeasible && a.kind != api.Infeasible:
				t.Fatalf("P10.7: one more line than %d makes points: %s", n-1, show(p))
			case before.kind == api.Optimal && (a.kind == api.Unbounded || a.kind == api.Optimal && a.value.Cmp(before.value) > 0):
				t.Fatalf("P10.7: one more line than %d makes the value %s greater: %s, %s", n-1, show(before.value), show(a), show(p))
			case before.kind == api.Optimal && a.kind == api.Optimal && a.value.Cmp(before.value) < 0:
				less++
			case before.kind == api.Optimal && a.kind == api.Infeasible:
				ended++
			}
			before = a
		}
	}
	if less < 150 || ended < 60 {
		t.Error("too few lines change an answer:", less, ended)
	}
}
