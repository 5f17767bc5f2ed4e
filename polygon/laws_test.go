package polygon_test

import (
	"math/rand/v2"
	"testing"

	"sherd/api"
	"sherd/plane"
	"sherd/polygon"
	"sherd/rat"
)

// checkBegun compares a list with those that begin at its other corners, and with the reversed ones.
func checkBegun(t *testing.T, l []api.Vec, points ...api.Vec) {
	t.Helper()
	area, middle := polygon.Area(l), polygon.Center(l)
	lo, hi := polygon.Box(l)
	for k := range l {
		m := begunAt(l, k)
		if polygon.Valid(m) != polygon.Valid(l) || polygon.Convex(m) != polygon.Convex(l) {
			t.Fatalf("P6.9: Valid or Convex of %s changes, if it begins at %d", show(l), k)
		}
		low, high := polygon.Box(m)
		if !identical(polygon.Area(m), area) || !sameVec(polygon.Center(m), middle) || !sameVec(low, lo) || !sameVec(high, hi) {
			t.Fatalf("P6.9: the area, the centroid or the box of %s changes, if it begins at %d", show(l), k)
		}
		back := reversed(m)
		if !identical(polygon.Area(back), rat.Neg(area)) {
			t.Fatalf("P6.9: the area of %s is not negative, if it begins at %d and is reversed", show(l), k)
		}
		if polygon.Valid(l) && (polygon.Valid(back) || polygon.Convex(back)) {
			t.Fatalf("P6.9: %s is still valid, if it begins at %d and is reversed", show(l), k)
		}
		if !polygon.Valid(l) {
			continue
		}
		for _, p := range points {
			if polygon.Has(m, p) != polygon.Has(l, p) {
				t.Fatalf("P6.9: where %s is in %s changes, if it begins at %d", show(p), show(l), k)
			}
		}
	}
}

func TestBeginnings(t *testing.T) {
	r := rand.New(rand.NewPCG(6, 16))
	for _, l := range shapes() {
		checkBegun(t, corners(l), plane.Of(1, 1), plane.Of(2, 3), plane.Of(9, 2), corner(l[1]), halves(l[0].x+l[1].x, l[0].y+l[1].y))
	}
	for k := range 150 {
		checkBegun(t, corners(randomSpots(r, k%14, 3+k%3)))
		f, l := randomFrame(r, 1+k%10), randomPolygon(r, 3+k%10, 7)
		checkBegun(t, vectors(f.list(l)), vectors(f.list(randomSpots(r, 4, 7)))...)
	}
}

// mean returns the middle between two vectors.
func mean(a, b api.Vec) api.Vec { return plane.Scale(plane.Add(a, b), rat.Of(1, 2)) }

// checkInside checks P6.10 for a valid polygon and some points.
func checkInside(t *testing.T, l []api.Vec, points []api.Vec) {
	t.Helper()
	for k, a := range l {
		if polygon.Has(l, a) != 0 || polygon.Has(l, mean(a, l[(k+1)%len(l)])) != 0 {
			t.Fatalf("P6.10: the corner %d of %s, or the middle of its side, is on no side", k, show(l))
		}
	}
	lo, hi := polygon.Box(l)
	round := polygon.Convex(l)
	var where []int
	for _, p := range points {
		where = append(where, polygon.Has(l, p))
		boxed := rat.Compare(lo.X, p.X) <= 0 && rat.Compare(lo.Y, p.Y) <= 0 && rat.Compare(p.X, hi.X) <= 0 && rat.Compare(p.Y, hi.Y) <= 0
		if polygon.Has(l, p) >= 0 && !boxed {
			t.Fatalf("P6.10: %s is not outside of %s, but outside of its box", show(p), show(l))
		}
	}
	for i, p := range points {
		for j, q := range points {
			if where[i] > 0 && where[j] < 0 && !meetsSide(l, p, q) {
				t.Fatalf("P6.10: the segment from %s to %s meets no side of %s", show(p), show(q), show(l))
			}
			if round && where[i] >= 0 && where[j] >= 0 && polygon.Has(l, mean(p, q)) < 0 {
				t.Fatalf("P6.10: %s and %s are points of %s, but not their middle", show(p), show(q), show(l))
			}
		}
	}
	if round && polygon.Has(l, polygon.Center(l)) != 1 {
		t.Fatalf("P6.10: the centroid of %s is not inside", show(l))
	}
}

func meetsSide(l []api.Vec, p, q api.Vec) bool {
	for k, a := range l {
		if polygon.Meets(p, q, a, l[(k+1)%len(l)]) {
			return true
		}
	}
	return false
}

func TestInside(t *testing.T) {
	r := rand.New(rand.NewPCG(6, 17))
	convexOnes := 0
	for _, l := range shapes() {
		points := corners(l)
		for range 12 {
			points = append(points, halves(r.IntN(30)-8, r.IntN(30)-8))
		}
		checkInside(t, corners(l), points)
	}
	for k := range 200 {
		f, l := randomFrame(r, 1+k%10), randomPolygon(r, 3+k%10, 7)
		if k%2 == 0 {
			// Few corners are convex more often.
			l = randomPolygon(r, 3+k%4, 7)
		}
		if convex(l) {
			convexOnes++
		}
		checkInside(t, vectors(f.list(l)), vectors(f.list(append(randomSpots(r, 12, 9), l...))))
	}
	for n := 3; n <= 12; n++ {
		checkInside(t, corners(parabola(n)), append(corners(parabola(14)), plane.Of(1, 2), plane.Of(2, 5), plane.Of(1, 3), plane.Of(3, 1)))
	}
	if convexOnes < 50 {
		t.Error("only", convexOnes, "polygons were convex")
	}
}
