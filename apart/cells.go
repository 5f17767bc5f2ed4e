package apart

import (
	"iter"

	"sherd/api"
	"sherd/rat"
)

// All returns for each pair of cells, in order, the first of its directions that separates it by e; no directions and false, if a pair has none.
func All(a, b [][]api.Vec, e api.Rat) ([]api.Vec, bool) {
	var all []api.Vec
	for p, q := range pairs(a, b) {
		n, found := Find(p, q, e)
		if !found {
			return nil, false
		}
		all = append(all, n)
	}
	return all, true
}

// Check returns ErrProof, if l does not have, for each pair of cells, in order, one direction that separates it by e.
func Check(a, b [][]api.Vec, e api.Rat, l []api.Vec) api.Errno {
	for p, q := range pairs(a, b) {
		if len(l) == 0 || !numeric(l[0]) || !separates(l[0], p, q, e) {
			return api.ErrProof
		}
		l = l[1:]
	}
	if len(l) > 0 {
		return api.ErrProof
	}
	return api.OK
}

// numeric reports whether n consists of valid numbers.
func numeric(n api.Vec) bool { return rat.Valid(n.X) && rat.Valid(n.Y) }

// pairs yields each cell of a with each cell of b, in lexicographic order.
func pairs(a, b [][]api.Vec) iter.Seq2[[]api.Vec, []api.Vec] {
	return func(yield func(p, q []api.Vec) bool) {
		for _, p := range a {
			for _, q := range b {
				if !yield(p, q) {
					return
				}
			}
		}
	}
}
