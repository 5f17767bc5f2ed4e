package simplex_test

import (
	"fmt"
	"math/big"
	"math/rand/v2"
	"slices"
	"strings"
	"testing"

	"sherd/api"
	"sherd/rat"
	"sherd/simplex"
)

func times(a, b *big.Rat) *big.Rat { return new(big.Rat).Mul(a, b) }

func plus(a, b *big.Rat) *big.Rat { return new(big.Rat).Add(a, b) }

func less(a, b *big.Rat) *big.Rat { return new(big.Rat).Sub(a, b) }

func quotient(a, b *big.Rat) *big.Rat { return new(big.Rat).Quo(a, b) }

func minus(a *big.Rat) *big.Rat { return new(big.Rat).Neg(a) }

func size(a *big.Rat) *big.Rat { return new(big.Rat).Abs(a) }

func whole(n int) *big.Rat { return big.NewRat(int64(n), 1) }

// vec is a list of numbers.
type vec []*big.Rat

func ints(l ...int) vec {
	v := vec{}
	for _, n := range l {
		v = append(v, whole(n))
	}
	return v
}

func zeros(n int) vec { return ints(make([]int, n)...) }

func dot(v, w vec) *big.Rat {
	sum := new(big.Rat)
	for k := range v {
		sum.Add(sum, times(v[k], w[k]))
	}
	return sum
}

func scale(v vec, a *big.Rat) vec {
	w := vec{}
	for _, b := range v {
		w = append(w, times(a, b))
	}
	return w
}

func add(v, w vec) vec {
	u := vec{}
	for k := range v {
		u = append(u, plus(v[k], w[k]))
	}
	return u
}

func same(v, w vec) bool {
	return slices.EqualFunc(v, w, func(a, b *big.Rat) bool { return a.Cmp(b) == 0 })
}

// line is a x <= b.
type line struct {
	a vec
	b *big.Rat
}

// program has as many variables as its goal has elements.
type program struct {
	lines []line
	goal  vec
}

// of returns the program with a goal, and with lines whose last elements are their right sides.
func of(goal []int, lines ...[]int) program {
	p := program{goal: ints(goal...)}
	for _, l := range lines {
		p.lines = append(p.lines, line{ints(l[:len(goal)]...), whole(l[len(goal)])})
	}
	return p
}

func (p program) vars() int { return len(p.goal) }

// with returns p with further lines.
func (p program) with(lines ...line) program {
	return program{append(slices.Clone(p.lines), lines...), p.goal}
}

// to returns p with another goal.
func (p program) to(goal vec) program { return program{p.lines, goal} }

// answer is an answer as the program returns it, read into numbers of math/big.
type answer struct {
	kind  int
	x, y  vec
	value *big.Rat
}

// The next functions follow the wording of the chapter.

func (p program) feasible(x vec) bool {
	return len(x) == p.vars() && !slices.ContainsFunc(p.lines, func(l line) bool { return dot(l.a, x).Cmp(l.b) > 0 })
}

// sums returns the sum of y times A, and of y times B.
func (p program) sums(y vec) (vec, *big.Rat) {
	sum, bound := zeros(p.vars()), new(big.Rat)
	for k, l := range p.lines {
		sum, bound = add(sum, scale(l.a, y[k])), plus(bound, times(l.b, y[k]))
	}
	return sum, bound
}

func (p program) right(a answer) bool {
	positive := func() bool {
		return len(a.y) == len(p.lines) && !slices.ContainsFunc(a.y, func(b *big.Rat) bool { return b.Sign() < 0 })
	}
	switch a.kind {
	case api.Optimal:
		if !p.feasible(a.x) || !positive() {
			return false
		}
		sum, bound := p.sums(a.y)
		return same(sum, p.goal) && bound.Cmp(a.value) == 0 && dot(p.goal, a.x).Cmp(a.value) == 0
	case api.Infeasible:
		if len(a.x) > 0 || !positive() || a.value.Sign() != 0 {
			return false
		}
		sum, bound := p.sums(a.y)
		return same(sum, zeros(p.vars())) && bound.Sign() < 0
	case api.Unbounded:
		if !p.feasible(a.x) || len(a.y) != p.vars() || a.value.Sign() != 0 {
			return false
		}
		ends := func(l line) bool { return dot(l.a, a.y).Sign() > 0 }
		return !slices.ContainsFunc(p.lines, ends) && dot(p.goal, a.y).Sign() > 0
	}
	return false
}

// solve returns the kind of the answer, and its value. It takes the goal for one more variable, and eliminates the others one after the other: whatever is at most something, and whatever is at least something, make one line for each pair (Fourier and Motzkin's method).
func (p program) solve() (int, *big.Rat) {
	n := p.vars()
	lines := []line{{append(slices.Clone(p.goal), whole(-1)), new(big.Rat)}, {append(scale(p.goal, whole(-1)), whole(1)), new(big.Rat)}}
	for _, l := range p.lines {
		lines = append(lines, line{append(slices.Clone(l.a), new(big.Rat)), l.b})
	}
	for j := range n {
		lines = eliminate(lines, j)
	}
	var low, high *big.Rat
	for _, l := range lines {
		switch at := l.a[n]; at.Sign() {
		case 0:
			if l.b.Sign() < 0 {
				return api.Infeasible, new(big.Rat)
			}
		case 1:
			if b := quotient(l.b, at); high == nil || b.Cmp(high) < 0 {
				high = b
			}
		case -1:
			if b := quotient(l.b, at); low == nil || b.Cmp(low) > 0 {
				low = b
			}
		}
	}
	switch {
	case low != nil && high != nil && low.Cmp(high) > 0:
		return api.Infeasible, new(big.Rat)
	case high == nil:
		return api.Unbounded, new(big.Rat)
	}
	return api.Optimal, high
}

// eliminate returns lines without the variable j that the other variables satisfy exactly if there is some value for it.
func eliminate(lines []line, j int) []line {
	var made, above, below []line
	for _, l := range lines {
		switch l.a[j].Sign() {
		case 0:
			made = append(made, l)
		case 1:
			above = append(above, l)
		case -1:
			below = append(below, l)
		}
	}
	for _, l := range above {
		for _, m := range below {
			s, t := minus(m.a[j]), l.a[j]
			made = append(made, line{add(scale(l.a, s), scale(m.a, t)), plus(times(l.b, s), times(m.b, t))})
		}
	}
	return tightest(made)
}

// tightest returns one line for each direction, the one that leaves least.
func tightest(lines []line) []line {
	at := map[string]int{}
	var made []line
	for _, l := range lines {
		for _, b := range l.a {
			if b.Sign() != 0 {
				by := quotient(whole(1), size(b))
				l = line{scale(l.a, by), times(l.b, by)}
				break
			}
		}
		key := fmt.Sprint(l.a)
		k, found := at[key]
		switch {
		case !found:
			at[key] = len(made)
			made = append(made, l)
		case l.b.Cmp(made[k].b) < 0:
			made[k] = l
		}
	}
	return made
}

// Between the model and the program.

func number(v *big.Rat) api.Rat {
	a, e := rat.Parse(v.RatString())
	if e != api.OK {
		panic("the text of a number is too long")
	}
	return a
}

func numbers(v vec) []api.Rat {
	var l []api.Rat
	for _, a := range v {
		l = append(l, number(a))
	}
	return l
}

func value(a api.Rat) *big.Rat {
	if !rat.Valid(a) {
		panic("a number is not valid")
	}
	v, ok := new(big.Rat).SetString(rat.Text(a))
	if !ok {
		panic("the text of a number is none")
	}
	return v
}

func values(l []api.Rat) vec {
	v := vec{}
	for _, a := range l {
		v = append(v, value(a))
	}
	return v
}

func (p program) given() api.Program {
	g := api.Program{Vars: p.vars(), Goal: numbers(p.goal)}
	for _, l := range p.lines {
		g.Lines = append(g.Lines, api.Line{A: numbers(l.a), B: number(l.b)})
	}
	return g
}

func read(a api.Answer) answer { return answer{a.Kind, values(a.X), values(a.Y), value(a.Value)} }

func (a answer) given() api.Answer {
	return api.Answer{Kind: a.kind, X: numbers(a.x), Y: numbers(a.y), Value: number(a.value)}
}

// show is for messages: programs, answers and numbers, shortened in the middle.
func show(x any) string {
	s := ""
	switch x := x.(type) {
	case *big.Rat:
		s = x.RatString()
	case vec:
		var l []string
		for _, a := range x {
			l = append(l, show(a))
		}
		s = "[" + strings.Join(l, " ") + "]"
	case program:
		s = "greatest " + show(x.goal)
		for _, l := range x.lines {
			s += ", " + show(l.a) + " <= " + show(l.b)
		}
	case answer:
		s = fmt.Sprint("kind ", x.kind, " value ", show(x.value), " x ", show(x.x), " y ", show(x.y))
	case api.Answer:
		return show(read(x))
	default:
		s = fmt.Sprint(x)
	}
	if len(s) > 1000 {
		s = fmt.Sprintf("%s...%s (%d bytes)", s[:480], s[len(s)-480:], len(s))
	}
	return s
}

// isZero reports whether an answer is the zero value, but for empty lists.
func isZero(a api.Answer) bool {
	return a.Kind == 0 && len(a.X) == 0 && len(a.Y) == 0 && rat.Sign(a.Value) == 0
}

// solved returns what Solve returns, if it is right.
func solved(t *testing.T, p program) answer {
	t.Helper()
	got, e := simplex.Solve(p.given())
	if e != api.OK {
		t.Fatalf("P10.1: Solve returns the error %d: %s", e, show(p))
	}
	a := read(got)
	if !p.right(a) {
		t.Fatalf("P10.1: the answer %s is not right: %s", show(a), show(p))
	}
	if e := simplex.Check(p.given(), got); e != api.OK {
		t.Fatalf("P10.2: Check of the answer %s is %d: %s", show(a), e, show(p))
	}
	return a
}

// Programs and numbers.

// small returns 1 / 10^n.
func small(n int) *big.Rat {
	return new(big.Rat).SetFrac(big.NewInt(1), new(big.Int).Exp(big.NewInt(10), big.NewInt(int64(n)), nil))
}

// random returns a number whose numerator and denominator have n decimal digits at most.
func random(r *rand.Rand, n int) *big.Rat {
	digits := func(n int) *big.Int {
		p := new(big.Int)
		for range n {
			p.Add(p.Mul(p, big.NewInt(10)), big.NewInt(int64(r.IntN(10))))
		}
		return p
	}
	q := digits(r.IntN(n))
	v := new(big.Rat).SetFrac(digits(1+r.IntN(n)), q.Add(q, big.NewInt(1)))
	if r.IntN(2) == 0 {
		v.Neg(v)
	}
	return v
}

func randomVec(r *rand.Rand, n, digits int) vec {
	v := vec{}
	for range n {
		v = append(v, random(r, digits))
	}
	return v
}

// smallInts returns n integers whose absolute values are at most most; many of them are 0.
func smallInts(r *rand.Rand, n, most int) vec {
	v := vec{}
	for range n {
		if r.IntN(3) == 0 {
			v = append(v, whole(0))
		} else {
			v = append(v, whole(r.IntN(2*most+1)-most))
		}
	}
	return v
}

// someProgram returns one of several kinds of programs: with small integers, with fractions, with lines that come again, with equations, through one point, or around one.
func someProgram(r *rand.Rand, vars, lines int) program {
	p := program{goal: smallInts(r, vars, 3)}
	kind := r.IntN(6)
	point := smallInts(r, vars, 4)
	for len(p.lines) < lines {
		l := line{smallInts(r, vars, 3), whole(r.IntN(9) - 3)}
		switch kind {
		case 1:
			l = line{randomVec(r, vars, 2), random(r, 2)}
		case 2:
			if len(p.lines) > 0 && r.IntN(2) == 0 {
				old := p.lines[r.IntN(len(p.lines))]
				by := big.NewRat(int64(1+r.IntN(3)), int64(1+r.IntN(3)))
				l = line{scale(old.a, by), times(old.b, by)}
			}
		case 3:
			if len(p.lines) > 0 && r.IntN(3) == 0 {
				old := p.lines[len(p.lines)-1]
				l = line{scale(old.a, whole(-1)), minus(old.b)}
			}
		case 4:
			l.b = dot(l.a, point)
		case 5:
			l.b = plus(dot(l.a, point), whole(r.IntN(4)))
		}
		p.lines = append(p.lines, l)
	}
	return p
}

func TestModel(t *testing.T) {
	for _, c := range []struct {
		p     program
		kind  int
		value int
	}{
		{of([]int{1, 1}, []int{1, 0, 2}, []int{0, 1, 3}, []int{1, 1, 4}), api.Optimal, 4},
		{of([]int{1, 1}, []int{1, 0, 2}, []int{0, 1, 3}, []int{1, 1, 4}, []int{-1, 0, -3}), api.Infeasible, 0},
		{of([]int{1, -1}, []int{0, 1, 3}), api.Unbounded, 0},
		{of([]int{}), api.Optimal, 0},
		{of([]int{}, []int{-1}), api.Infeasible, 0},
		{of([]int{0, 0}), api.Optimal, 0},
		{of([]int{0, 2}), api.Unbounded, 0},
	} {
		if kind, value := c.p.solve(); kind != c.kind || value.Cmp(whole(c.value)) != 0 {
			t.Error("the model is wrong:", kind, show(value), show(c.p))
		}
	}
	if a := of([]int{1}, []int{2, 6}); !a.right(answer{api.Optimal, ints(3), vec{big.NewRat(1, 2)}, whole(3)}) || a.right(answer{api.Optimal, ints(2), vec{big.NewRat(1, 2)}, whole(3)}) {
		t.Error("the model of right answers is wrong")
	}
	r := rand.New(rand.NewPCG(10, 1))
	for range 50 {
		v := random(r, 30)
		if value(number(v)).Cmp(v) != 0 {
			t.Error("the model reads numbers wrongly:", show(v))
		}
	}
}
