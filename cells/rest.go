package cells

import (
	"slices"

	"sherd/api"
	"sherd/plane"
)

// rest is a polygon of which some corners remain: left is their indices, in order.
type rest struct {
	corners []api.Vec
	left    []int
}

// whole returns a polygon of which all corners remain.
func whole(l []api.Vec) *rest {
	r := &rest{corners: l}
	for k := range l {
		r.left = append(r.left, k)
	}
	return r
}

// many reports whether more than three corners remain.
func (r *rest) many() bool { return len(r.left) > 3 }

// around returns what returns the one at a place, between the one before and the one after it, where they are counted on around both ends of the list.
func around(left []int) func(at int) [3]int {
	n := len(left)
	return func(at int) [3]int {
		return [3]int{left[(at+n-1)%n], left[at], left[(at+1)%n]}
	}
}

// pick returns the first remaining corner, between the ones before and after it, for which fits holds, if there is one.
func (r *rest) pick(fits func(t [3]int) bool) ([3]int, bool) {
	corner := around(r.left)
	for at := range r.left {
		if t := corner(at); fits(t) {
			return t, true
		}
	}
	return [3]int{}, false
}

// shows reports whether t is an ear between the corners before and after it.
func (r *rest) shows(t [3]int) bool {
	_, found := r.pick(func(u [3]int) bool { return u == t && r.ear(u) })
	return found
}

// ear reports whether the corner in the middle of t, which is between the ones before and after it, is an ear.
func (r *rest) ear(t [3]int) bool {
	if r.side(t[0], t[1], t[2]) <= 0 {
		return false
	}
	free := true
search:
	for _, k := range r.left {
		switch {
		case slices.Contains(t[:], k):
			// A corner of the triangle itself is not in its way.
		case r.covers(t, k):
			free = false
			break search
		}
	}
	return free
}

// covers reports whether the corner k is in the counterclockwise triangle t, or on its boundary.
func (r *rest) covers(t [3]int, k int) bool {
	return r.side(t[0], t[1], k) >= 0 && r.side(t[1], t[2], k) >= 0 && r.side(t[2], t[0], k) >= 0
}

// flat reports whether the corner in the middle of t lies on the line through the other two.
func (r *rest) flat(t [3]int) bool { return r.side(t[0], t[1], t[2]) == 0 }

// side returns 1, 0 or -1, if the corner k lies to the left of the line from the corner a to the corner b, on it, or to the right of it.
func (r *rest) side(a, b, k int) int {
	return plane.Side(r.corners[a], r.corners[b], r.corners[k])
}

// cut takes the ear in the middle of t away, and then the corners that are flat.
func (r *rest) cut(t [3]int) {
	r.drop(t[1])
	for t, found := r.pick(r.flat); found && r.many(); t, found = r.pick(r.flat) {
		r.drop(t[1])
	}
}

// drop takes the corner k away.
func (r *rest) drop(k int) {
	r.left = slices.DeleteFunc(r.left, func(other int) bool { return other == k })
}
