package simplex

import (
	"iter"
	"slices"

	"sherd/api"
	"sherd/rat"
)

// right reports whether a is a right answer for p.
func right(p api.Program, a api.Answer) bool {
	switch a.Kind {
	case api.Optimal:
		return satisfies(p, a.X) && sums(p, a.Y, p.Goal) && rat.Same(rat.Dot(p.Goal, a.X), a.Value) && rat.Same(bound(p, a.Y), a.Value)
	case api.Infeasible:
		return len(a.X) == 0 && sums(p, a.Y, make([]api.Rat, p.Vars)) && rat.Sign(bound(p, a.Y)) < 0 && rat.Sign(a.Value) == 0
	case api.Unbounded:
		return satisfies(p, a.X) && leads(p, a.Y) && rat.Sign(a.Value) == 0
	}
	return false
}

// satisfies reports whether x is a feasible point.
func satisfies(p api.Program, x []api.Rat) bool {
	forbids := func(l api.Line) bool { return rat.Compare(rat.Dot(l.A, x), l.B) > 0 }
	return len(x) == p.Vars && !slices.ContainsFunc(p.Lines, forbids)
}

// leads reports whether the goal grows along y, where no line ever ends the way.
func leads(p api.Program, y []api.Rat) bool {
	ends := func(l api.Line) bool { return rat.Sign(rat.Dot(l.A, y)) > 0 }
	return len(y) == p.Vars && rat.Sign(rat.Dot(p.Goal, y)) > 0 && !slices.ContainsFunc(p.Lines, ends)
}

// sums reports whether y has an element of at least 0 for each line, and the lines, so many times, add up to a goal.
func sums(p api.Program, y, goal []api.Rat) bool {
	negative := func(a api.Rat) bool { return rat.Sign(a) < 0 }
	if len(y) != len(p.Lines) || slices.ContainsFunc(y, negative) {
		return false
	}
	for j, column := range columns(p.Lines, p.Vars) {
		if !rat.Same(rat.Dot(y, column), goal[j]) {
			return false
		}
	}
	return true
}

// bound returns the sum of y times the right sides of the lines.
func bound(p api.Program, y []api.Rat) api.Rat { return rat.Dot(y, ends(p.Lines)) }

// columns yields for each variable its elements of all lines.
func columns(lines []api.Line, vars int) iter.Seq2[int, []api.Rat] {
	return func(yield func(j int, column []api.Rat) bool) {
		for j := range vars {
			var column []api.Rat
			for _, l := range lines {
				column = append(column, l.A[j])
			}
			if !yield(j, column) {
				return
			}
		}
	}
}

// ends returns the right sides of all lines.
func ends(lines []api.Line) []api.Rat {
	var column []api.Rat
	for _, l := range lines {
		column = append(column, l.B)
	}
	return column
}
