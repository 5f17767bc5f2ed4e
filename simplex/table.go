package simplex

import (
	"slices"

	"sherd/api"
	"sherd/rat"
)

// table says how some numbers, its rows, depend on others, its columns: own times a row is the sum of its elements times the columns, and of its last element, its constant. Both rows and columns have names. Below the rows with names there may be one more, the goal.
//
// All elements are whole numbers, since these are calculated with much faster than fractions, and those of a row and its own have no common divisor.
type table struct {
	rows [][]api.Rat
	own  []api.Rat // positive
	left []int     // the names of the rows
	top  []int     // the names of the columns
}

// exchange makes the row i a column, and the column j a row; their element is not 0.
func (t *table) exchange(i, j int) {
	row, own, sign := t.rows[i], t.own[i], rat.Sign(t.rows[i][j])
	combine := func(k int) {
		share := rat.Div(t.rows[k][j], row[j])
		if rat.Sign(share) == 0 {
			return
		}
		// The row k is taken as many times as it has to be for the row i to be taken a whole number of times.
		taken, times := api.Rat{P: rat.Den(share)}, api.Rat{P: share.P}
		sum := make([]api.Rat, len(row))
		for l, a := range t.rows[k] {
			if rat.Sign(a) != 0 || rat.Sign(row[l]) != 0 {
				sum[l] = rat.Sub(rat.Mul(taken, a), rat.Mul(times, row[l]))
			}
		}
		sum[j] = rat.Mul(times, own)
		t.rows[k], t.own[k] = reduced(sum, rat.Mul(taken, t.own[k]))
	}
	for k := range len(t.rows) {
		if k != i {
			combine(k)
		}
	}
	t.rows[i] = each(row, func(a api.Rat) api.Rat { return signed(a, -sign) })
	t.rows[i][j], t.own[i] = signed(own, sign), signed(row[j], sign)
	t.left[i], t.top[j] = t.top[j], t.left[i]
}

// mirror makes the rows columns, as they are in the dual program: there the names stand for how many times each line is taken.
func (t *table) mirror() {
	common := rat.Of(1, 1)
	for _, own := range t.own {
		common = rat.Mul(common, api.Rat{P: rat.Div(own, common).P})
	}
	rows := make([][]api.Rat, len(t.top)+1)
	for i, row := range t.rows {
		times := rat.Neg(rat.Div(common, t.own[i]))
		for j, a := range row {
			rows[j] = append(rows[j], rat.Mul(a, times))
		}
	}
	t.rows, t.own = rows, make([]api.Rat, len(rows))
	for j, row := range rows {
		t.rows[j], t.own[j] = reduced(row, common)
	}
	t.left, t.top = t.top, t.left
}

// copied returns a copy of t.
func (t *table) copied() *table {
	// The elements of a row are never changed: a row is replaced by another one.
	return &table{slices.Clone(t.rows), slices.Clone(t.own), slices.Clone(t.left), slices.Clone(t.top)}
}

// part returns the rows and the columns with certain names, and the constants.
func (t *table) part(row, column func(name int) bool) *table {
	p := &table{}
	for _, name := range t.top {
		if column(name) {
			p.top = append(p.top, name)
		}
	}
	for i, name := range t.left {
		if !row(name) {
			continue
		}
		var l []api.Rat
		for j, name := range t.top {
			if column(name) {
				l = append(l, t.rows[i][j])
			}
		}
		l, own := reduced(append(l, t.rows[i][len(t.top)]), t.own[i])
		p.rows, p.own, p.left = append(p.rows, l), append(p.own, own), append(p.left, name)
	}
	return p
}

// fill puts the rows into v, by their names, for the columns that are there, and the constants times one.
func (t *table) fill(v []api.Rat, one api.Rat) {
	var columns []api.Rat
	for _, name := range t.top {
		columns = append(columns, v[name])
	}
	columns = append(columns, one)
	for i, name := range t.left {
		v[name] = rat.Div(rat.Dot(t.rows[i], columns), t.own[i])
	}
}

// express returns the elements and the constant of another row: the sum of all rows and columns, each so many times as w says by its name, and of a constant.
func (t *table) express(w []api.Rat, constant api.Rat) []api.Rat {
	var sum []api.Rat
	for _, name := range t.top {
		sum = append(sum, w[name])
	}
	sum = append(sum, constant)
	for i, name := range t.left {
		if rat.Sign(w[name]) == 0 {
			continue
		}
		times := rat.Div(w[name], t.own[i])
		for j, a := range t.rows[i] {
			sum[j] = rat.Add(sum[j], rat.Mul(times, a))
		}
	}
	return sum
}

// reduced returns a row and its own in least whole numbers.
func reduced(row []api.Rat, own api.Rat) ([]api.Rat, api.Rat) {
	unit := measure(append([]api.Rat{own}, row...))
	if rat.Same(unit, rat.Of(1, 1)) {
		return row, own
	}
	over := func(a api.Rat) api.Rat { return rat.Div(a, unit) }
	return each(row, over), over(own)
}

// measure returns the greatest number of which all elements are whole multiples; 1, if they are zeros.
func measure(l []api.Rat) api.Rat {
	unit := api.Rat{}
	for _, a := range l {
		switch sign := rat.Sign(a); {
		case sign == 0:
		case rat.Sign(unit) == 0:
			unit = signed(a, sign)
		default:
			unit = rat.Div(unit, api.Rat{P: rat.Den(rat.Div(a, unit))})
		}
	}
	if rat.Sign(unit) == 0 {
		return rat.Of(1, 1)
	}
	return unit
}

// each returns what f makes of all elements.
func each(l []api.Rat, f func(a api.Rat) api.Rat) []api.Rat {
	made := make([]api.Rat, len(l))
	for i, a := range l {
		made[i] = f(a)
	}
	return made
}

// signed returns a, or -a for a negative sign.
func signed(a api.Rat, sign int) api.Rat {
	if sign < 0 {
		return rat.Neg(a)
	}
	return a
}
