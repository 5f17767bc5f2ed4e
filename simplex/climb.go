package simplex

import (
	"iter"
	"slices"

	"sherd/api"
	"sherd/rat"
)

// climb exchanges rows and columns until the goal is greatest where all columns are 0. If it has no greatest value, climb returns a column with which it grows without an end, and true. The rows and columns with names are never negative; no constant is, but that of the goal.
func (t *table) climb() (int, bool) {
	t.lift()
	defer t.lower()
	for {
		i, j, found := t.next()
		if i < 0 {
			return j, found
		}
		t.exchange(i, j)
	}
}

// lift gives each row a second constant, which counts only where the first ones are equal. Where many rows are 0 at once, it tells which way leads on.
func (t *table) lift() {
	for i, row := range t.rows {
		// The goal is the last row.
		second := api.Rat{}
		if i < len(t.left) {
			second = rat.Mul(rat.Of(i+1, 1), t.own[i])
		}
		t.rows[i] = append(slices.Clone(row), second)
	}
}

// lower takes the second constants away.
func (t *table) lower() {
	for i, row := range t.rows {
		t.rows[i], t.own[i] = reduced(row[:len(t.top)+1], t.own[i])
	}
}

// next returns the column with which the goal grows most until a row is 0, and this row. If no row becomes 0, it is -1; if the goal grows with no column, found is false, too.
func (t *table) next() (row, column int, found bool) {
	row = -1
	var most []api.Rat
	for j := range t.rising() {
		i := t.limit(j)
		if i < 0 {
			return i, j, true
		}
		// Taking the least name where nothing grows keeps the way from going round in a circle (Bland's rule).
		gain := t.gain(i, j)
		c := slices.CompareFunc(gain, most, rat.Compare)
		if !found || c > 0 || c == 0 && t.top[j] < t.top[column] {
			row, column, most, found = i, j, gain, true
		}
	}
	return row, column, found
}

// rising yields the columns with which the goal grows.
func (t *table) rising() iter.Seq[int] {
	return func(yield func(j int) bool) {
		goal := t.rows[len(t.left)]
		for j := range t.top {
			if rat.Sign(goal[j]) > 0 && !yield(j) {
				return
			}
		}
	}
}

// limit returns the first row to become 0 as a column grows, or -1, if none does.
func (t *table) limit(j int) int {
	first := -1
	for i := range t.left {
		if rat.Sign(t.rows[i][j]) < 0 && (first < 0 || t.before(i, first, j)) {
			first = i
		}
	}
	return first
}

// before reports whether the row i becomes 0 before the row k as a column grows; both become less.
func (t *table) before(i, k, j int) bool {
	a, b := t.rows[i], t.rows[k]
	for l := len(t.top); l < len(a); l++ {
		if c := rat.Compare(rat.Mul(a[l], b[j]), rat.Mul(b[l], a[j])); c != 0 {
			return c > 0
		}
	}
	return t.left[i] < t.left[k]
}

// gain returns by how much the goal grows with a column until a row is 0.
func (t *table) gain(i, j int) []api.Rat {
	times := rat.Div(t.rows[len(t.left)][j], rat.Neg(t.rows[i][j]))
	return each(t.rows[i][len(t.top):], func(a api.Rat) api.Rat { return rat.Mul(times, a) })
}
