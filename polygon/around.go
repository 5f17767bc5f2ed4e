package polygon

import (
	"iter"

	"sherd/api"
	"sherd/plane"
)

// around returns what returns the corner k, where the corners are counted on around the list behind its end.
func around(l []api.Vec) func(k int) api.Vec {
	return func(k int) api.Vec { return l[k%len(l)] }
}

// sides yields the sides, each with the index of the corner where it begins.
func sides(l []api.Vec) iter.Seq2[int, segment] {
	corner := around(l)
	return func(yield func(int, segment) bool) {
		for k := range l {
			if !yield(k, segment{corner(k), corner(k + 1)}) {
				return
			}
		}
	}
}

// turns yields 1, 0 or -1 for each side, if the one after it turns to the left, goes on along its line, or turns to the right.
func turns(l []api.Vec) iter.Seq[int] {
	corner := around(l)
	return func(yield func(int) bool) {
		for k, s := range sides(l) {
			if !yield(plane.Side(s.from, s.to, corner(k+2))) {
				return
			}
		}
	}
}
