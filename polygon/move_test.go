package polygon_test

import (
	"math/big"
	"math/rand/v2"
	"testing"

	"sherd/api"
	"sherd/plane"
	"sherd/polygon"
	"sherd/rat"
)

func TestKnownMoves(t *testing.T) {
	angle := corners(shapes()["angle"])
	still, quarter := plane.Still(), api.Turn{S: rat.Of(1, 1)}
	skew := api.Turn{C: rat.Of(3, 5), S: rat.Of(4, 5)}
	for _, c := range []struct {
		name    string
		p       api.Place
		l, want []api.Vec
	}{
		{"no corner", api.Place{Turn: quarter, At: plane.Of(1, 2)}, nil, nil},
		{"one corner", api.Place{Turn: quarter, At: plane.Of(1, 2)}, []api.Vec{plane.Of(3, 0)}, []api.Vec{plane.Of(1, 5)}},
		{"two equal corners", api.Place{Turn: still, At: plane.Of(1, 2)}, []api.Vec{plane.Of(3, 0), plane.Of(3, 0)}, []api.Vec{plane.Of(4, 2), plane.Of(4, 2)}},
		{"no turn at (0, 0)", api.Place{Turn: still}, angle, angle},
		{"no turn at (-5, 1)", api.Place{Turn: still, At: plane.Of(-5, 1)}, angle, corners([]spot{{-5, 1}, {-1, 1}, {-1, 3}, {-3, 3}, {-3, 5}, {-5, 5}})},
		{"a quarter turn", api.Place{Turn: quarter}, angle, corners([]spot{{0, 0}, {0, 4}, {-2, 4}, {-2, 2}, {-4, 2}, {-4, 0}})},
		{"half a turn at (4, 4)", api.Place{Turn: api.Turn{C: rat.Of(-1, 1)}, At: plane.Of(4, 4)}, angle, corners([]spot{{4, 4}, {0, 4}, {0, 2}, {2, 2}, {2, 0}, {4, 0}})},
		{"the turn of a triangle", api.Place{Turn: skew, At: plane.Of(1, 0)}, corners([]spot{{0, 0}, {5, 0}, {5, 10}, {0, 5}}), corners([]spot{{1, 0}, {4, 4}, {-4, 10}, {-3, 3}})},
		{"a turn that makes fractions", api.Place{Turn: skew}, corners([]spot{{1, 0}, {1, 1}}), []api.Vec{{X: rat.Of(3, 5), Y: rat.Of(4, 5)}, {X: rat.Of(-1, 5), Y: rat.Of(7, 5)}}},
	} {
		if got := polygon.Move(c.p, c.l); !sameList(got, c.want) {
			t.Errorf("P6.6: %s: %s", c.name, show(got))
		}
	}
}

// turns returns all turns by quarters, and those of some right triangles, with all signs.
func turns() []api.Turn {
	var l []api.Turn
	for _, c := range [][3]int{{1, 0, 1}, {3, 4, 5}, {5, 12, 13}, {8, 15, 17}, {20, 21, 29}, {119, 120, 169}, {2000, 999999, 1000001}} {
		a, b := rat.Of(c[0], c[2]), rat.Of(c[1], c[2])
		for _, u := range []api.Turn{{C: a, S: b}, {C: b, S: a}} {
			half := api.Turn{C: rat.Neg(u.C), S: rat.Neg(u.S)}
			l = append(l, u, plane.Back(u), half, plane.Back(half))
		}
	}
	return l
}

// places returns placements with these turns.
func places(r *rand.Rand) []api.Place {
	var l []api.Place
	for k, u := range turns() {
		l = append(l, api.Place{Turn: u}, api.Place{Turn: u, At: vector(randomVec(r, 1+k%9))})
	}
	return l
}

// randomPlace returns a placement whose turn has about 2 n digits.
func randomPlace(r *rand.Rand, n int) api.Place {
	for {
		v := randomVec(r, n)
		vv := plus(times(v.x, v.x), times(v.y, v.y))
		if vv.Sign() == 0 {
			continue
		}
		// Twice the angle of v.
		c := new(big.Rat).Quo(new(big.Rat).Sub(times(v.x, v.x), times(v.y, v.y)), vv)
		s := new(big.Rat).Quo(times(big.NewRat(2, 1), times(v.x, v.y)), vv)
		return api.Place{Turn: api.Turn{C: number(c), S: number(s)}, At: vector(randomVec(r, n))}
	}
}

// checkMoved compares a list with what it becomes by a placement.
func checkMoved(t *testing.T, p api.Place, l []api.Vec, points ...api.Vec) {
	t.Helper()
	moved := polygon.Move(p, l)
	if len(moved) != len(l) {
		t.Fatalf("P6.6: %d corners become %d", len(l), len(moved))
	}
	for k, a := range l {
		if !sameVec(moved[k], plane.Put(p, a)) {
			t.Fatalf("P6.6: the corner %d of %s is led to %s", k, show(l), show(moved[k]))
		}
	}
	if polygon.Valid(moved) != polygon.Valid(l) || polygon.Convex(moved) != polygon.Convex(l) {
		t.Fatalf("P6.7: Valid or Convex of %s changes", show(l))
	}
	if !identical(polygon.Area(moved), polygon.Area(l)) {
		t.Fatalf("P6.7: the area of %s changes", show(l))
	}
	if rat.Sign(polygon.Area(l)) != 0 && !sameVec(polygon.Center(moved), plane.Put(p, polygon.Center(l))) {
		t.Fatalf("P6.7: the centroid of %s does not move along", show(l))
	}
	if !polygon.Valid(l) {
		return
	}
	for _, a := range points {
		if polygon.Has(moved, plane.Put(p, a)) != polygon.Has(l, a) {
			t.Fatalf("P6.7: where %s is in %s does not move along", show(a), show(l))
		}
	}
}

func TestMoves(t *testing.T) {
	r := rand.New(rand.NewPCG(6, 15))
	for _, p := range places(r) {
		for _, l := range shapes() {
			points := []api.Vec{corner(l[0]), plane.Of(1, 1), plane.Of(3, 3), plane.Of(-1, 2), halves(l[0].x+l[1].x, l[0].y+l[1].y), polygon.Center(corners(l))}
			checkMoved(t, p, corners(l), points...)
		}
		checkMoved(t, p, corners(randomSpots(r, r.IntN(14), 3)))
		checkMoved(t, p, corners(randomPolygon(r, 12, 7)), corners(randomSpots(r, 10, 7))...)
		checkMoved(t, p, nil)
		if !plane.Valid(p.Turn) {
			t.Fatal("no valid turn:", p.Turn)
		}
	}
	for k := range 100 {
		l := randomFrame(r, 1+k%12).list(randomPolygon(r, 3+k%10, 7))
		checkMoved(t, randomPlace(r, 1+k%9), vectors(l), vector(l[0]), vector(scale(add(l[0], l[1], l[2]), big.NewRat(1, 3))))
		checkMoved(t, randomPlace(r, 1+k%9), reversed(vectors(l)))
	}
	l := randomFrame(r, 150).list(shapes()["comb"])
	checkMoved(t, randomPlace(r, 100), vectors(l), vector(l[3]), vector(add(l[1], l[2])))
}
