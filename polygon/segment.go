package polygon

import (
	"sherd/api"
	"sherd/plane"
	"sherd/rat"
)

// segment is the two ends of a segment, which may be equal.
type segment struct{ from, to api.Vec }

// Has returns 1, 0 or -1, if p is inside of a valid polygon, on a side of it, or outside.
func Has(l []api.Vec, p api.Vec) int {
	where := -1
	for _, s := range sides(l) {
		switch {
		case s.has(p):
			return 0
		case s.right(p):
			where = -where
		}
	}
	return where
}

// Meets reports whether the segments from a to b and from c to d have a point in common.
func Meets(a, b, c, d api.Vec) bool { return segment{a, b}.meets(segment{c, d}) }

// meets reports whether s and t have a point in common.
func (s segment) meets(t segment) bool {
	// Segments on one line part each other's ends also if they are apart, and so does a point on the line of a segment: only the order of the ends tells.
	return s.overlaps(t) && s.parts(t) && t.parts(s)
}

// has reports whether p is a point of s.
func (s segment) has(p api.Vec) bool { return s.overlaps(segment{p, p}) && s.side(p) == 0 }

// overlaps reports whether, in the order of vectors, none of both segments ends before the other one begins.
func (s segment) overlaps(t segment) bool {
	low, high := s.ordered()
	first, last := t.ordered()
	return plane.Compare(low, last) <= 0 && plane.Compare(first, high) <= 0
}

// ordered returns both ends in the order of vectors.
func (s segment) ordered() (api.Vec, api.Vec) {
	if plane.Compare(s.from, s.to) > 0 {
		return s.to, s.from
	}
	return s.from, s.to
}

// parts reports whether the ends of t do not lie both to the left, nor both to the right of the line of s.
func (s segment) parts(t segment) bool { return s.side(t.from)*s.side(t.to) <= 0 }

// side returns 1, 0 or -1, if p lies to the left of the line of s, on it, or to the right of it; 0, if s is a point.
func (s segment) side(p api.Vec) int { return plane.Side(s.from, s.to, p) }

// right reports whether a point of s lies to the right of p at the same height, where of both ends the upper one does not count: what goes from p to the right passes through a corner between a lower and an upper side as through one side.
func (s segment) right(p api.Vec) bool {
	from, to := above(s.from, p), above(s.to, p)
	switch {
	case from == to:
		return false
	case to:
		return s.side(p) > 0
	}
	return s.side(p) < 0
}

// above reports whether a is higher than p.
func above(a, p api.Vec) bool { return rat.Compare(a.Y, p.Y) > 0 }
