package cells_test

import (
	"math/rand/v2"
	"slices"
	"testing"

	"sherd/api"
	"sherd/cells"
	"sherd/plane"
	"sherd/polygon"
	"sherd/rat"
)

// checkCovered checks P7.5 for some points.
func checkCovered(t *testing.T, l []api.Vec, points []api.Vec) {
	t.Helper()
	parts, _ := cells.Of(l)
	for _, p := range points {
		covers, inside := 0, 0
		for _, part := range parts {
			switch polygon.Has(part, p) {
			case 1:
				inside++
				fallthrough
			case 0:
				covers++
			}
		}
		if inside > 1 {
			t.Fatalf("P7.5: the point %s is inside of %d triangles of %s", show([]api.Vec{p}), inside, show(l))
		}
		if (covers > 0) != (polygon.Has(l, p) >= 0) {
			t.Fatalf("P7.5: the point %s is in %d triangles of %s", show([]api.Vec{p}), covers, show(l))
		}
	}
}

// checkAreas checks P7.6.
func checkAreas(t *testing.T, l []api.Vec) {
	t.Helper()
	parts, e := cells.Of(l)
	sum := api.Rat{}
	for _, part := range parts {
		a := polygon.Area(part)
		if rat.Sign(a) <= 0 || !polygon.Valid(part) {
			t.Fatalf("P7.6: the triangle %s of %s is not counterclockwise", show(part), show(l))
		}
		sum = rat.Add(sum, a)
	}
	if e != api.OK || !rat.Same(sum, polygon.Area(l)) {
		t.Fatalf("P7.6: the areas of the triangles of %s add up to %s, not %s", show(l), rat.Text(sum), rat.Text(polygon.Area(l)))
	}
	if len(parts) > len(l)-2 {
		t.Fatalf("P7.6: there are %d triangles of %s", len(parts), show(l))
	}
}

// checkAccepted checks P7.7.
func checkAccepted(t *testing.T, l []api.Vec) {
	t.Helper()
	w, _ := cells.Cut(l)
	if e := cells.Check(l, w); e != api.OK {
		t.Fatalf("P7.7: Check of the cut %v of %s is %d", w, show(l), e)
	}
	for k := range w {
		if e := cells.Check(l, slices.Delete(slices.Clone(w), k, k+1)); e != api.ErrProof {
			t.Fatalf("P7.7: Check of the cut %v of %s without the triple %d is %d", w, show(l), k, e)
		}
	}
}

// mean returns the middle between two vectors.
func mean(a, b api.Vec) api.Vec { return plane.Scale(plane.Add(a, b), rat.Of(1, 2)) }

// special returns the corners, the middles between them, and the centroids of the triangles.
func special(l []api.Vec) []api.Vec {
	points := slices.Clone(l)
	for i, a := range l {
		for _, b := range l[:i] {
			points = append(points, mean(a, b))
		}
	}
	parts, _ := cells.Of(l)
	for _, part := range parts {
		points = append(points, polygon.Center(part))
	}
	return points
}

func TestCovered(t *testing.T) {
	r := rand.New(rand.NewPCG(7, 8))
	for _, l := range shapes() {
		made := corners(l)
		var points []api.Vec
		for range 40 {
			points = append(points, api.Vec{X: rat.Of(r.IntN(36)-12, 2), Y: rat.Of(r.IntN(30)-10, 2)})
		}
		checkCovered(t, made, append(points, special(made)...))
	}
	// All points of small grids, and those in their middles.
	for k := range 8 {
		l, f := randomPolygon(r, 6+k%7, 5), randomFrame(r, 1+k%4)
		var points []api.Vec
		for p := range 121 {
			points = append(points, plane.Of(p/11-1, p%11-1))
		}
		for m := range l {
			l[m] = spot{2 * l[m].x, 2 * l[m].y}
		}
		checkCovered(t, corners(l), points)
		checkCovered(t, f.list(l), f.list(randomSpots(r, 60, 9)))
	}
	for k := range 60 {
		l := randomFrame(r, 1+k%12).list(randomPolygon(r, 3+k%10, 5))
		checkCovered(t, l, special(l))
	}
}

func TestAreasAndChecks(t *testing.T) {
	r := rand.New(rand.NewPCG(7, 9))
	for _, l := range shapes() {
		for k := range l {
			checkAreas(t, corners(begunAt(l, k)))
			checkAccepted(t, corners(begunAt(l, k)))
		}
	}
	for k := range 250 {
		l := randomPolygon(r, 3+k%10, 4+k%6)
		made := corners(l)
		if k%2 == 0 {
			made = randomFrame(r, 1+k%25).list(l)
		}
		checkAreas(t, made)
		checkAccepted(t, made)
	}
	l := randomFrame(r, 300).list(shapes()["teeth"])
	checkAreas(t, l)
	checkAccepted(t, l)
}

// turns returns all turns by quarters, and those of some right triangles, with all signs.
func turns() []api.Turn {
	var l []api.Turn
	for _, c := range [][3]int{{1, 0, 1}, {3, 4, 5}, {20, 21, 29}} {
		a, b := rat.Of(c[0], c[2]), rat.Of(c[1], c[2])
		for _, u := range []api.Turn{{C: a, S: b}, {C: b, S: a}} {
			half := api.Turn{C: rat.Neg(u.C), S: rat.Neg(u.S)}
			l = append(l, u, plane.Back(u), half, plane.Back(half))
		}
	}
	return l
}

// checkMoved checks P7.8, and that the ears and what Check says do not change either.
func checkMoved(t *testing.T, p api.Place, l []api.Vec, w [][3]int) {
	t.Helper()
	moved := polygon.Move(p, l)
	before, e := cells.Cut(l)
	after, f := cells.Cut(moved)
	if e != f || !slices.Equal(before, after) {
		t.Fatalf("P7.8: Cut of %s is %v, but %v when it was moved", show(l), before, after)
	}
	if cells.Check(l, w) != cells.Check(moved, w) {
		t.Fatalf("P7.3: Check of %v is %d for %s, but %d when it was moved", w, cells.Check(l, w), show(l), cells.Check(moved, w))
	}
	for k := range l {
		if cells.Ear(l, k) != cells.Ear(moved, k) {
			t.Fatalf("P7.2: Ear of %d of %s changes when it is moved", k, show(l))
		}
	}
	parts, _ := cells.Of(l)
	others, _ := cells.Of(moved)
	for k, part := range parts {
		if !slices.EqualFunc(others[k], polygon.Move(p, part), sameVec) {
			t.Fatalf("P7.8: the triangle %d of %s does not move along", k, show(l))
		}
	}
}

func TestMoved(t *testing.T) {
	r := rand.New(rand.NewPCG(7, 10))
	for k, u := range turns() {
		if !plane.Valid(u) {
			t.Fatal("no valid turn:", u)
		}
		at := vectors([]vec{randomVec(r, 1+k%12)})[0]
		for _, l := range shapes() {
			checkMoved(t, api.Place{Turn: u, At: at}, corners(l), changed(r, someWay(r, l), len(l)))
		}
		l := randomPolygon(r, 3+k%10, 6)
		checkMoved(t, api.Place{Turn: u}, randomFrame(r, 20).list(l), someWay(r, l))
		checkMoved(t, api.Place{Turn: u, At: at}, corners(reversed(l)), someWay(r, l))
		checkMoved(t, api.Place{Turn: u, At: at}, corners(randomSpots(r, k%14, 3)), nil)
	}
}
