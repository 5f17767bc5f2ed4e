package cells_test

import (
	"math"
	"math/rand/v2"
	"testing"

	"sherd/api"
	"sherd/cells"
	"sherd/plane"
	"sherd/polygon"
	"sherd/rat"
)

func TestKnownEars(t *testing.T) {
	for _, c := range []struct {
		name string
		l    []spot
		ears []int
	}{
		{"the example", shapes()["notch"], []int{2, 4}},
		{"a triangle", shapes()["triangle"], []int{0, 1, 2}},
		{"the square", shapes()["square"], []int{0, 1, 2, 3}},
		{"twelve corners of a parabola", parabola(12), []int{0, 1, 2, 3, 4, 5, 6, 7, 8, 9, 10, 11}},
		{"the dart", shapes()["dart"], []int{1, 3}},
		{"the angle", shapes()["angle"], []int{1, 2, 4, 5}},
		{"a corner on the boundaries of three triangles", shapes()["touched"], []int{2, 4}},
		{"a corner inside of a triangle", []spot{{0, 0}, {4, 0}, {4, 4}, {1, 2}, {0, 4}}, []int{1, 2, 4}},
		{"a corner outside of a triangle", []spot{{0, 0}, {4, 0}, {4, 4}, {2, 3}, {0, 4}}, []int{0, 1, 2, 4}},
		{"a tooth", shapes()["tooth"], []int{0, 2, 4, 5, 6}},
		{"a cross", shapes()["cross"], []int{0, 1, 3, 4, 6, 7, 9, 10}},
		{"a butterfly", shapes()["butterfly"], []int{0, 2, 3, 5}},
		{"two long ears", []spot{{0, 0}, {9, 1}, {1, 1}, {1, 9}}, []int{1, 3}},
	} {
		for k := -1; k <= len(c.l); k++ {
			want := false
			for _, other := range c.ears {
				want = want || k == other
			}
			if cells.Ear(corners(c.l), k) != want {
				t.Errorf("P7.2: Ear of %d is %v: %s", k, !want, c.name)
			}
		}
		for _, k := range []int{math.MinInt, math.MinInt + 1, -len(c.l), -2, len(c.l) + 1, 2 * len(c.l), 1 << 32, math.MaxInt} {
			if cells.Ear(corners(c.l), k) {
				t.Errorf("P7.2: there is no corner %d, but it is an ear: %s", k, c.name)
			}
		}
	}
}

// The segment between the corners beside an ear is inside of the polygon, but for its ends.
func checkDiagonals(t *testing.T, l []api.Vec) {
	t.Helper()
	n := len(l)
	every := true
	for k := range l {
		before, after := l[(k+n-1)%n], l[(k+1)%n]
		middle := plane.Scale(plane.Add(before, after), rat.Of(1, 2))
		inside := n == 3 || polygon.Has(l, middle) > 0
		for m, a := range l {
			b := l[(m+1)%n]
			if !sameVec(a, before) && !sameVec(a, after) {
				inside = inside && !polygon.Meets(before, after, a, a)
				if !sameVec(b, before) && !sameVec(b, after) {
					inside = inside && !polygon.Meets(before, after, a, b)
				}
			}
		}
		// The two sides of the corner itself meet the segment in its ends only, and the corner is none of them.
		if cells.Ear(l, k) != inside {
			t.Fatalf("P7.2: Ear of %d is %v for %s", k, !inside, show(l))
		}
		every = every && inside
	}
	if polygon.Convex(l) != every {
		t.Fatalf("P7.9: Convex of %s is %v", show(l), !every)
	}
}

func TestDiagonals(t *testing.T) {
	for _, l := range shapes() {
		for k := range l {
			checkDiagonals(t, corners(begunAt(l, k)))
		}
	}
	r := rand.New(rand.NewPCG(7, 4))
	for k := range 200 {
		checkDiagonals(t, corners(randomPolygon(r, 3+k%10, 4+k%7)))
		checkDiagonals(t, randomFrame(r, 1+k%20).list(randomPolygon(r, 3+k%10, 5)))
	}
	for n := 3; n <= 12; n++ {
		checkDiagonals(t, randomFrame(r, 9).list(parabola(n)))
	}
}

// P7.9 for polygons with few corners, of which many are convex.
func TestConvexPolygons(t *testing.T) {
	r := rand.New(rand.NewPCG(7, 5))
	counts := map[bool]int{}
	for k := range 600 {
		l := randomFrame(r, 1+k%12).list(randomPolygon(r, 3+k%4, 9))
		every := true
		for k := range l {
			every = every && cells.Ear(l, k)
		}
		if every != polygon.Convex(l) {
			t.Fatalf("P7.9: all corners are ears: %v; for %s", every, show(l))
		}
		counts[every]++
	}
	if counts[true] < 100 || counts[false] < 100 {
		t.Error("the polygons are too much alike:", counts)
	}
}
