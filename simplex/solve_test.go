package simplex_test

import (
	"math"
	"math/big"
	"math/rand/v2"
	"testing"

	"sherd/api"
	"sherd/simplex"
)

func TestKnownAnswers(t *testing.T) {
	for _, c := range []struct {
		name  string
		p     program
		kind  int
		value int
	}{
		// The examples of the chapter.
		{"the example", of([]int{1, 1}, []int{1, 0, 2}, []int{0, 1, 3}, []int{1, 1, 4}), api.Optimal, 4},
		{"the example without a point", of([]int{1, 1}, []int{1, 0, 2}, []int{0, 1, 3}, []int{1, 1, 4}, []int{-1, 0, -3}), api.Infeasible, 0},
		{"the example without an end", of([]int{1, -1}, []int{0, 1, 3}), api.Unbounded, 0},
		// No variables, no lines, or neither.
		{"nothing", of(nil), api.Optimal, 0},
		{"no variables and a line of 0", of(nil, []int{0}), api.Optimal, 0},
		{"no variables and a line of 1", of(nil, []int{1}), api.Optimal, 0},
		{"no variables and a line of -1", of(nil, []int{-1}), api.Infeasible, 0},
		{"no variables and lines", of(nil, []int{3}, []int{0}, []int{-2}, []int{1}, []int{-5}), api.Infeasible, 0},
		{"no lines and no goal", of([]int{0, 0, 0}), api.Optimal, 0},
		{"no lines", of([]int{0, 5, 0}), api.Unbounded, 0},
		{"no lines, downwards", of([]int{0, 0, -5}), api.Unbounded, 0},
		// Lines of zeros.
		{"a line of zeros and 0", of([]int{1}, []int{0, 0}, []int{1, 7}), api.Optimal, 7},
		{"a line of zeros and 1", of([]int{1}, []int{0, 1}, []int{1, 7}), api.Optimal, 7},
		{"a line of zeros and -1", of([]int{1}, []int{0, -1}, []int{1, 7}), api.Infeasible, 0},
		{"only a line of zeros and 0", of([]int{1}, []int{0, 0}), api.Unbounded, 0},
		{"only a line of zeros and -1", of([]int{1}, []int{0, -1}), api.Infeasible, 0},
		{"only lines of zeros", of([]int{0, 0}, []int{0, 0, 0}, []int{0, 0, 9}), api.Optimal, 0},
		{"a goal of zeros", of([]int{0, 0}, []int{1, 0, 2}, []int{0, 1, 3}), api.Optimal, 0},
		{"a goal of zeros without a point", of([]int{0}, []int{1, 2}, []int{-1, -3}), api.Infeasible, 0},
		// One point, none, and points without end.
		{"one point", of([]int{3, -1}, []int{1, 0, 2}, []int{-1, 0, -2}, []int{0, 1, 5}, []int{0, -1, -5}), api.Optimal, 1},
		{"one point where three lines meet", of([]int{1, 1}, []int{1, 0, 2}, []int{0, 1, 3}, []int{-1, -1, -5}), api.Optimal, 5},
		{"one point that is 0", of([]int{7, 9}, []int{1, 1, 0}, []int{-1, 0, 0}, []int{0, -1, 0}), api.Optimal, 0},
		{"missed by three lines", of([]int{1, 1}, []int{1, 0, 2}, []int{0, 1, 3}, []int{-1, -1, -6}), api.Infeasible, 0},
		{"missed by two lines", of([]int{1}, []int{1, 2}, []int{-1, -3}), api.Infeasible, 0},
		{"missed, without a greatest value", of([]int{0, 1}, []int{1, 0, 2}, []int{-1, 0, -3}), api.Infeasible, 0},
		{"points without end with a greatest value", of([]int{-1, -1}, []int{-1, 0, -2}, []int{0, -1, -3}), api.Optimal, -5},
		{"points without end with a greatest value on a line", of([]int{2, 2}, []int{1, 1, 4}), api.Optimal, 8},
		{"points without end without a greatest value", of([]int{1, 1}, []int{-1, 0, -2}, []int{0, -1, -3}), api.Unbounded, 0},
		{"a line without end", of([]int{1, 1}, []int{1, -1, 0}, []int{-1, 1, 0}), api.Unbounded, 0},
		{"a line without end, crosswise", of([]int{1, -1}, []int{1, -1, 3}, []int{-1, 1, -3}), api.Optimal, 3},
		{"a variable that is in no line", of([]int{1, 0}, []int{1, 0, 3}), api.Optimal, 3},
		{"a variable that is in no line and in the goal", of([]int{1, 2}, []int{1, 0, 3}), api.Unbounded, 0},
		{"a variable that is in no line, without a point", of([]int{1, 2}, []int{1, 0, 3}, []int{-1, 0, -4}), api.Infeasible, 0},
		{"variables that depend on each other", of([]int{2, 4, 1}, []int{1, 2, 0, 3}, []int{0, 0, 1, 4}), api.Optimal, 10},
		{"variables that depend on each other otherwise", of([]int{2, 3, 1}, []int{1, 2, 0, 3}, []int{0, 0, 1, 4}), api.Unbounded, 0},
		// Lines that come again.
		{"the same line twice", of([]int{1}, []int{1, 5}, []int{1, 5}), api.Optimal, 5},
		{"multiples of a line", of([]int{1, 1}, []int{1, 1, 5}, []int{2, 2, 10}, []int{3, 3, 15}), api.Optimal, 5},
		{"parallel lines", of([]int{1, 1}, []int{1, 1, 6}, []int{2, 2, 10}, []int{3, 3, 18}), api.Optimal, 5},
		{"equations", of([]int{0, 0, 1}, []int{1, 1, 1, 6}, []int{-1, -1, -1, -6}, []int{1, -1, 0, 1}, []int{-1, 1, 0, -1}, []int{-1, 0, 0, 0}, []int{0, -1, 0, 0}), api.Optimal, 5},
		{"equations that contradict each other", of([]int{1, 0}, []int{1, 1, 6}, []int{-1, -1, -6}, []int{1, 1, 5}, []int{-1, -1, -5}), api.Infeasible, 0},
		// More lines through one point than variables.
		{"an octagon's cone", of([]int{1, 2}, []int{1, 0, 0}, []int{0, 1, 0}, []int{1, 1, 0}, []int{1, 2, 0}, []int{2, 1, 0}, []int{3, 1, 0}), api.Optimal, 0},
		{"an upside-down pyramid", of([]int{0, 0, -1}, []int{1, 0, -1, 0}, []int{-1, 0, -1, 0}, []int{0, 1, -1, 0}, []int{0, -1, -1, 0}, []int{1, 1, -1, 0}, []int{-1, -1, -1, 0}), api.Optimal, 0},
		{"a pyramid without an end", of([]int{0, 0, 1}, []int{1, 0, -1, 0}, []int{-1, 0, -1, 0}, []int{0, 1, -1, 0}, []int{0, -1, -1, 0}), api.Unbounded, 0},
		// Ints at the ends.
		{"the greatest int", of([]int{1}, []int{1, math.MaxInt}), api.Optimal, math.MaxInt},
		{"the least int", of([]int{-1}, []int{-1, math.MinInt + 1}, []int{math.MaxInt, math.MaxInt}), api.Infeasible, 0},
	} {
		a := solved(t, c.p)
		if a.kind != c.kind || a.value.Cmp(whole(c.value)) != 0 {
			t.Errorf("P10.1: the answer is %s, not of kind %d and value %d: %s", show(a), c.kind, c.value, c.name)
		}
	}
}

// Programs on which simple ways of exchanging lines go round in a circle.
func TestCircles(t *testing.T) {
	third := big.NewRat(1, 3)
	beale := program{goal: vec{big.NewRat(3, 4), whole(-20), big.NewRat(1, 2), whole(-6)}, lines: []line{
		{vec{big.NewRat(1, 4), whole(-8), whole(-1), whole(9)}, whole(0)},
		{vec{big.NewRat(1, 2), whole(-12), big.NewRat(-1, 2), whole(3)}, whole(0)},
		{ints(0, 0, 1, 0), whole(1)},
	}}
	chvatal := of([]int{10, -57, -9, -24}, []int{1, -11, -5, 18, 0}, []int{1, -3, -1, 2, 0}, []int{1, 0, 0, 0, 1})
	kuhn := program{goal: ints(2, 3, -1, -12), lines: []line{
		{ints(-2, -9, 1, 9), whole(0)},
		{vec{third, whole(1), minus(third), whole(-2)}, whole(0)},
		{ints(2, 3, -1, -12), whole(2)},
	}}
	marshall := of([]int{2, 2, -9}, []int{3, -32, 24, 0}, []int{1, -9, 3, 0}, []int{2, -8, 1, 0}, []int{0, 1, 0, 1})
	for _, c := range []struct {
		name  string
		p     program
		value *big.Rat
	}{
		{"Beale's", beale, big.NewRat(5, 4)},
		{"Chvatal's", chvatal, whole(1)},
		{"Kuhn's", kuhn, whole(2)},
		{"Marshall and Suurballe's", marshall, nil},
	} {
		p := c.p
		for k := range p.vars() {
			positive := line{zeros(p.vars()), whole(0)}
			positive.a[k] = whole(-1)
			p = p.with(positive)
		}
		a := solved(t, p)
		if c.value != nil && (a.kind != api.Optimal || a.value.Cmp(c.value) != 0) {
			t.Errorf("P10.1: the answer is %s, not of the value %s: %s", show(a), show(c.value), c.name)
		}
		for k := range p.lines {
			turned := program{append(append([]line{}, p.lines[k:]...), p.lines[:k]...), p.goal}
			if b := solved(t, turned); b.kind != a.kind || b.value.Cmp(a.value) != 0 {
				t.Errorf("P10.1: the answer is %s for the lines in another order: %s", show(b), c.name)
			}
		}
	}
}

// Many lines through one point, about which the way has to be found.
func TestManyLinesThroughOnePoint(t *testing.T) {
	r := rand.New(rand.NewPCG(10, 2))
	counts := [3]int{}
	for k := range 400 {
		n := 1 + k%6
		point := smallInts(r, n, 3)
		p := program{goal: smallInts(r, n, 3)}
		for range n + r.IntN((1+k%5)*n) {
			a := smallInts(r, n, 2)
			p.lines = append(p.lines, line{a, dot(a, point)})
		}
		a := solved(t, p)
		counts[a.kind]++
		if a.kind == api.Infeasible || a.kind == api.Optimal && a.value.Cmp(dot(p.goal, point)) != 0 {
			t.Fatalf("P10.1: the answer is %s, though all lines go through %s: %s", show(a), show(point), show(p))
		}
		// One line that is missed by very little leaves no point, or no more than the others.
		missed := line{scale(p.goal, whole(-1)), less(minus(dot(p.goal, point)), small(1+k%20))}
		if b := solved(t, p.with(missed)); a.kind == api.Optimal && b.kind != api.Infeasible {
			t.Fatalf("P10.1: the answer is %s, though the greatest value is %s: %s", show(b), show(a.value), show(p.with(missed)))
		}
	}
	if counts[api.Optimal] < 20 || counts[api.Unbounded] < 20 {
		t.Error("too few programs of a kind:", counts)
	}
}

// checkSolve compares Solve with the model.
func checkSolve(t *testing.T, p program) int {
	t.Helper()
	a := solved(t, p)
	if kind, value := p.solve(); a.kind != kind || a.value.Cmp(value) != 0 {
		t.Fatalf("P10.1: the answer is %s, not of kind %d and value %s: %s", show(a), kind, show(value), show(p))
	}
	return a.kind
}

// All programs of one variable and up to three lines, and all of two variables and two lines, whose numbers are from -1 to 1.
func TestAllSmallPrograms(t *testing.T) {
	three := []int{-1, 0, 1}
	var one, two [][]int
	for _, b := range three {
		for _, x := range three {
			one = append(one, []int{x, b})
			for _, y := range three {
				two = append(two, []int{x, y, b})
			}
		}
	}
	for _, g := range three {
		checkSolve(t, of([]int{g}))
		for _, l := range one {
			checkSolve(t, of([]int{g}, l))
			for _, m := range one {
				checkSolve(t, of([]int{g}, l, m))
				for _, n := range one {
					checkSolve(t, of([]int{g}, l, m, n))
				}
			}
		}
		for _, h := range three {
			for _, l := range two {
				checkSolve(t, of([]int{g, h}, l))
				for _, m := range two {
					checkSolve(t, of([]int{g, h}, l, m))
				}
			}
		}
	}
}

func TestSomePrograms(t *testing.T) {
	r := rand.New(rand.NewPCG(10, 3))
	counts := [3]int{}
	for range 6000 {
		counts[checkSolve(t, someProgram(r, r.IntN(4), r.IntN(8)))]++
	}
	for kind, n := range counts {
		if n < 600 {
			t.Error("too few programs of a kind:", kind, counts)
		}
	}
}

// box returns a program whose variables are from 0 to some numbers, with further lines.
func box(r *rand.Rand, vars, lines int) program {
	p := program{}
	for k := range vars {
		p.goal = append(p.goal, whole(1+r.IntN(9)))
		above, below := zeros(vars), zeros(vars)
		above[k], below[k] = whole(1), whole(-1)
		p.lines = append(p.lines, line{above, whole(5 + r.IntN(9))}, line{below, whole(0)})
	}
	for len(p.lines) < lines {
		p.lines = append(p.lines, line{scale(smallInts(r, vars, 9), whole(1)), whole(20 + r.IntN(50))})
	}
	return p
}

// dense returns a program all of whose numbers are from -9 to 9.
func dense(r *rand.Rand, vars, lines int, right func() int) program {
	p := program{goal: vec{}}
	numbers := func() vec {
		v := vec{}
		for range vars {
			v = append(v, whole(r.IntN(19)-9))
		}
		return v
	}
	p.goal = numbers()
	for range lines {
		p.lines = append(p.lines, line{numbers(), whole(right())})
	}
	return p
}

// The largest programs are solved soon: with many zeros, with none, through one point, and without a point.
func TestLargestPrograms(t *testing.T) {
	r := rand.New(rand.NewPCG(10, 4))
	n, m := api.MaxVars, api.MaxLines
	for _, c := range []struct {
		name string
		p    program
		kind int
	}{
		{"a box", box(r, n, m), api.Optimal},
		{"around 0", dense(r, n, m, func() int { return 1 + r.IntN(100) }), api.Optimal},
		{"through 0", dense(r, n, m, func() int { return 0 }), api.Optimal},
		{"through 0, without an end", dense(r, n, n+30, func() int { return 0 }), api.Unbounded},
		{"without a point", dense(r, n, m, func() int { return r.IntN(50) - 40 }), api.Infeasible},
		{"as many lines as variables", dense(r, n, n, func() int { return r.IntN(50) - 40 }), api.Unbounded},
		{"many variables and few lines", dense(r, n, 5, func() int { return r.IntN(50) - 40 }), api.Unbounded},
		{"no variables and many lines", dense(r, 0, m, func() int { return r.IntN(50) }), api.Optimal},
	} {
		if a := solved(t, c.p); a.kind != c.kind {
			t.Errorf("P10.1: the kind is %d, not %d: %s", a.kind, c.kind, c.name)
		}
	}
}

// A cube that is pressed together so that a way along its edges may pass all of its corners (Klee and Minty's).
func TestPressedCubes(t *testing.T) {
	for _, n := range []int{1, 2, 5, 9, 30} {
		p := program{}
		power := func(base, n int) *big.Rat {
			return new(big.Rat).SetInt(new(big.Int).Exp(big.NewInt(int64(base)), big.NewInt(int64(n)), nil))
		}
		for k := range n {
			p.goal = append(p.goal, power(2, n-1-k))
			above, below := zeros(n), zeros(n)
			for j := range k {
				above[j] = power(2, k-j+1)
			}
			above[k], below[k] = whole(1), whole(-1)
			p.lines = append(p.lines, line{above, power(5, k+1)}, line{below, whole(0)})
		}
		if a := solved(t, p); a.kind != api.Optimal || a.value.Cmp(power(5, n)) != 0 {
			t.Errorf("P10.1: the answer for %d variables is %s", n, show(a))
		}
	}
}

// inFrame returns p for other variables, whose numbers have many digits: x is what lines and points are now multiplied by and moved along.
func inFrame(r *rand.Rand, p program, digits int) program {
	var by, to vec
	for range p.vars() {
		b := new(big.Rat)
		for b.Sign() == 0 {
			b = random(r, digits)
		}
		by, to = append(by, b), append(to, random(r, digits))
	}
	each := func(a vec) vec {
		w := vec{}
		for k := range a {
			w = append(w, times(a[k], by[k]))
		}
		return w
	}
	q := program{goal: each(p.goal)}
	for _, l := range p.lines {
		m := line{each(l.a), l.b}
		m.b = plus(m.b, dot(m.a, to))
		f := size(random(r, digits))
		if f.Sign() == 0 {
			f = whole(1)
		}
		q.lines = append(q.lines, line{scale(m.a, f), times(m.b, f)})
	}
	return q
}

// Whatever is calculated with numbers of many digits is exact, and is done soon.
func TestManyDigits(t *testing.T) {
	r := rand.New(rand.NewPCG(10, 5))
	for k := range 600 {
		p := someProgram(r, 1+r.IntN(3), 1+r.IntN(6))
		checkSolve(t, inFrame(r, p, 1+k/10))
	}
	for _, c := range [][3]int{{1, 4, 2000}, {2, 6, 300}, {4, 12, 60}, {6, 20, 20}} {
		p := program{goal: randomVec(r, c[0], c[2])}
		for range c[1] {
			p.lines = append(p.lines, line{randomVec(r, c[0], c[2]), size(random(r, c[2]))})
		}
		solved(t, p)
		for k := range p.lines {
			p.lines[k].b = minus(p.lines[k].b)
		}
		solved(t, p)
	}
	// Many variables that are measured in many units.
	p := box(r, 40, 100)
	if a, b := solved(t, p), solved(t, inFrame(r, p, 3)); a.kind != b.kind {
		t.Errorf("P10.1: the kind is %d, and in other units %d", a.kind, b.kind)
	}
}

// Values that are missed by very little.
func TestNearMisses(t *testing.T) {
	for _, n := range []int{1, 9, 10, 18, 19, 100, 1000} {
		// Two sides that let one point through, or leave a gap.
		for _, c := range []struct {
			gap  *big.Rat
			kind int
		}{{small(n), api.Infeasible}, {minus(small(n)), api.Optimal}, {new(big.Rat), api.Optimal}} {
			p := program{goal: ints(1, 1), lines: []line{
				{ints(1, 0), whole(2)}, {ints(0, 1), whole(3)}, {ints(-1, -1), minus(plus(whole(5), c.gap))},
			}}
			if a := solved(t, p); a.kind != c.kind {
				t.Errorf("P10.1: the kind is %d, not %d, by %d digits", a.kind, c.kind, n)
			}
		}
		// A side that is turned a little, so that the goal has a greatest value, or not.
		for _, c := range []struct {
			turn *big.Rat
			kind int
		}{{small(n), api.Optimal}, {minus(small(n)), api.Unbounded}, {new(big.Rat), api.Optimal}} {
			p := program{goal: ints(0, 1), lines: []line{{vec{c.turn, whole(1)}, whole(1)}, {ints(-1, 0), whole(0)}}}
			if a := solved(t, p); a.kind != c.kind {
				t.Errorf("P10.1: the kind is %d, not %d, turned by %s", a.kind, c.kind, show(c.turn))
			}
		}
	}
}

func TestSolveErrors(t *testing.T) {
	for _, c := range wrongPrograms() {
		if a, e := simplex.Solve(c.p); e != c.want || !isZero(a) {
			t.Errorf("P10.1: Solve returns %s and %d, not %d: %s", show(a), e, c.want, c.name)
		}
	}
}
