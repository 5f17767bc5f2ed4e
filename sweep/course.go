package sweep

import (
	"iter"
	"slices"

	"sherd/apart"
	"sherd/api"
	"sherd/plane"
	"sherd/rat"
)

// course tells when a direction separates two shapes while one of them moves: at the time s its gap exceeds the room by spare, less s times speed.
type course struct {
	way          api.Vec
	spare, speed api.Rat
}

// courseOf returns the course of a direction.
func courseOf(way api.Vec, a, b []api.Vec, v api.Vec, e api.Rat) course {
	return course{way, rat.Sub(apart.Gap(way, a, b), apart.Room(way, e)), plane.Dot(way, v)}
}

// separates reports whether it is a direction, which (0, 0) is not, and separates at a time.
func (c course) separates(time api.Rat) bool {
	return !plane.Same(c.way, api.Vec{}) && rat.Compare(c.spare, rat.Mul(time, c.speed)) >= 0
}

// lasts reports whether it separates at all later times, once it separates.
func (c course) lasts() bool { return rat.Sign(c.speed) <= 0 }

// change returns the time at which it begins or ceases to separate.
func (c course) change() api.Rat { return rat.Div(c.spare, c.speed) }

// courses yields the courses of the directions of a and b.
func courses(a, b []api.Vec, v api.Vec, e api.Rat) iter.Seq[course] {
	return func(yield func(c course) bool) {
		for _, n := range apart.Dirs(a, b) {
			if !yield(courseOf(n, a, b, v, e)) {
				return
			}
		}
	}
}

// guard returns the guard of the first course that separates at the beginning and ends as it has to, or else of the first pair of courses of which one begins, and the other one ends and separates already when the first one ceases.
func guard(all iter.Seq[course], ends func(c course) bool, alone api.Rat) (api.Guard, bool) {
	start := rat.Of(0, 1)
	var early, late []course
	for c := range all {
		before, after := c.separates(start), ends(c)
		if before && after {
			return api.Guard{First: c.way, Second: c.way, Until: alone}, true
		}
		if before {
			early = append(early, c)
		}
		if after {
			late = append(late, c)
		}
	}
	p, found := first(pairs(early, late), func(p [2]course) bool { return p[1].separates(p[0].change()) })
	if !found {
		return api.Guard{}, false
	}
	return api.Guard{First: p[0].way, Second: p[1].way, Until: p[0].change()}, true
}

// verdict returns ErrProof, if one of the directions of g does not separate at the beginning and until the other one takes over, or this one does not do so, or does not end as it has to.
func verdict(a, b []api.Vec, v api.Vec, e api.Rat, g api.Guard, ends func(c course) bool) api.Errno {
	if !numeric(g) || rat.Sign(g.Until) < 0 {
		return api.ErrProof
	}
	one, other := courseOf(g.First, a, b, v, e), courseOf(g.Second, a, b, v, e)
	if one.separates(rat.Of(0, 1)) && one.separates(g.Until) && other.separates(g.Until) && ends(other) {
		return api.OK
	}
	return api.ErrProof
}

// numeric reports whether g consists of valid numbers.
func numeric(g api.Guard) bool {
	numbers := []api.Rat{g.First.X, g.First.Y, g.Second.X, g.Second.Y, g.Until}
	return !slices.ContainsFunc(numbers, func(a api.Rat) bool { return !rat.Valid(a) })
}

// first returns the first element with a property, if there is one.
func first[T any](all iter.Seq[T], fits func(x T) bool) (T, bool) {
	for x := range all {
		if fits(x) {
			return x, true
		}
	}
	var none T
	return none, false
}

// pairs yields each element of a with each element of b, in lexicographic order.
func pairs[T any](a, b []T) iter.Seq[[2]T] {
	return func(yield func(p [2]T) bool) {
		for _, x := range a {
			for _, y := range b {
				if !yield([2]T{x, y}) {
					return
				}
			}
		}
	}
}
