package simplex

import (
	"slices"

	"sherd/api"
	"sherd/rat"
)

// space is the set of the feasible points of a program, or the proof that there are none. In its tables the numbers from 0 on are the names of the lines, which stand for what is left between their two sides, and the numbers behind them those of the variables.
type space struct {
	lines []api.Rat // what each line was divided by
	scale api.Rat   // what the variables were divided by
	vars  int
	frame *table    // the variables, by some of the lines; those that nothing depends on are left as columns
	start *table    // the other lines, by those of the frame, where all columns are 0 at a feasible point
	proof []api.Rat // if there is none: how many times each line is taken for a contradiction
}

// begin returns the space of a program.
func begin(p api.Program) *space {
	s := &space{vars: p.Vars}
	all := s.all(p)
	for j := range p.Vars {
		if i := s.simplest(all, j); i >= 0 {
			all.exchange(i, j)
		}
	}
	s.frame = all.part(s.variable, func(int) bool { return true })
	s.start = all.part(s.line, s.line)
	s.enter()
	return s
}

// all returns the table of all lines, by the variables.
func (s *space) all(p api.Program) *table {
	t := &table{}
	var constants []api.Rat
	for i, l := range p.Lines {
		unit := measure(l.A)
		over := func(a api.Rat) api.Rat { return rat.Div(a, unit) }
		constants = append(constants, over(l.B))
		s.lines = append(s.lines, unit)
		t.rows = append(t.rows, each(each(l.A, over), rat.Neg))
		t.own = append(t.own, rat.Of(1, 1))
		t.left = append(t.left, i)
	}
	// If the constants were made whole with their rows, all numbers would be as long as they are.
	s.scale = measure(constants)
	for i, a := range constants {
		t.rows[i] = append(t.rows[i], rat.Div(a, s.scale))
	}
	for j := range p.Vars {
		t.top = append(t.top, len(p.Lines)+j)
	}
	return t
}

func (s *space) line(name int) bool { return name < len(s.lines) }

func (s *space) variable(name int) bool { return !s.line(name) }

// simplest returns, of the lines that depend on a column, the one that depends on the fewest ones; -1, if there is none.
func (s *space) simplest(t *table, j int) int {
	found, fewest := -1, 0
	for i, name := range t.left {
		if s.variable(name) || rat.Sign(t.rows[i][j]) == 0 {
			continue
		}
		count := 0
		for _, a := range t.rows[i] {
			if rat.Sign(a) != 0 {
				count++
			}
		}
		if found < 0 || count < fewest {
			found, fewest = i, count
		}
	}
	return found
}

// enter exchanges lines at the start until all columns are 0 at a feasible point, or finds the proof that there is none.
func (s *space) enter() {
	t := s.start
	goal := make([]api.Rat, len(t.top)+1)
	for j := range t.top {
		goal[j] = rat.Of(-1, 1)
	}
	t.rows, t.own = append(t.rows, goal), append(t.own, rat.Of(1, 1))
	// With this goal all constants of the mirrored table are 1, so that climb may begin there, whatever those of the lines are. Where it finds no end, lines contradict each other.
	t.mirror()
	if j, endless := t.climb(); endless {
		v := s.zeros()
		v[t.top[j]] = rat.Of(1, 1)
		s.proof = s.taken(t, v, api.Rat{})
	}
	t.mirror()
}

// answer returns the answer for a goal.
func (s *space) answer(goal []api.Rat) api.Answer {
	if s.proof != nil {
		return api.Answer{Kind: api.Infeasible, Y: slices.Clone(s.proof)}
	}
	t := s.start.copied()
	way, endless := s.climb(t, goal)
	x := s.point(t, s.zeros(), s.scale)
	if endless {
		return api.Answer{Kind: api.Unbounded, X: x, Y: s.point(t, way, api.Rat{})}
	}
	t.mirror()
	y := s.taken(t, s.zeros(), rat.Of(1, 1))
	return api.Answer{Kind: api.Optimal, X: x, Y: y, Value: rat.Dot(goal, x)}
}

// climb exchanges lines in t until a goal is greatest where all columns are 0. If it has no greatest value, climb returns columns with which it grows without an end, and true.
func (s *space) climb(t *table, goal []api.Rat) ([]api.Rat, bool) {
	way := s.zeros()
	for j, slope := range s.aim(t, goal) {
		if sign := rat.Sign(slope); sign != 0 {
			way[len(s.lines)+j] = rat.Of(sign, 1)
			return way, true
		}
	}
	j, endless := t.climb()
	if endless {
		way[t.top[j]] = rat.Of(1, 1)
	}
	return way, endless
}

// aim makes a goal that of t, and returns how it depends on the variables that no line depends on.
func (s *space) aim(t *table, goal []api.Rat) []api.Rat {
	w := append(make([]api.Rat, len(s.lines)), goal...)
	row := s.frame.express(w, api.Rat{})
	w = s.zeros()
	for j, name := range s.frame.top {
		w[name] = row[j]
	}
	last := len(t.left)
	t.rows[last], t.own[last] = reduced(t.express(w, row[len(s.frame.top)]), rat.Of(1, 1))
	return w[len(s.lines):]
}

// point returns the variables of the program for the columns in v, by their names, and the constants times one.
func (s *space) point(t *table, v []api.Rat, one api.Rat) []api.Rat {
	t.fill(v, one)
	s.frame.fill(v, one)
	return v[len(s.lines):]
}

// taken returns how many times each line of the program is taken for the columns of a mirrored table in v, by their names, and the constants times one.
func (s *space) taken(t *table, v []api.Rat, one api.Rat) []api.Rat {
	t.fill(v, one)
	y := v[:len(s.lines)]
	for i, a := range y {
		y[i] = rat.Div(a, s.lines[i])
	}
	return y
}

// zeros returns a 0 for each name.
func (s *space) zeros() []api.Rat { return make([]api.Rat, len(s.lines)+s.vars) }
