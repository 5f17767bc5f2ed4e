package apart_test

import (
	"math"
	"math/big"
	"math/rand/v2"
	"testing"

	"sherd/apart"
	"sherd/api"
	"sherd/plane"
	"sherd/rat"
)

func TestKnownGaps(t *testing.T) {
	square, right := corners(shapes()["square"]), corners(moved(shapes()["square"], 3, 0))
	diamond := corners(shapes()["diamond"])
	for _, c := range []struct {
		n    api.Vec
		a, b []api.Vec
		want api.Rat
	}{
		{plane.Of(1, 0), square, right, rat.Of(1, 1)},
		{plane.Of(2, 0), square, right, rat.Of(2, 1)},
		{plane.Of(-1, 0), square, right, rat.Of(-5, 1)},
		{plane.Of(0, 1), square, right, rat.Of(-2, 1)},
		{plane.Of(1, 1), square, right, rat.Of(-1, 1)},
		{plane.Of(1, -1), square, right, rat.Of(-1, 1)},
		{plane.Of(1, 0), right, square, rat.Of(-5, 1)},
		{plane.Of(-3, 0), right, square, rat.Of(3, 1)},
		{plane.Of(0, 0), square, right, api.Rat{}},
		{api.Vec{X: rat.Of(1, 3), Y: rat.Of(-1, 7)}, square, right, rat.Of(1, 21)},
		{plane.Of(1, 2), square, square, rat.Of(-6, 1)},
		{plane.Of(1, 0), diamond, right, rat.Of(2, 1)},
		{plane.Of(1, 1), diamond, square, rat.Of(-1, 1)},
		// Lists that are no shapes.
		{plane.Of(3, 4), corners([]spot{{1, 2}}), corners([]spot{{5, 6}}), rat.Of(28, 1)},
		{plane.Of(-3, -4), corners([]spot{{1, 2}}), corners([]spot{{5, 6}}), rat.Of(-28, 1)},
		{plane.Of(3, 4), corners([]spot{{1, 2}, {-1, 0}}), corners([]spot{{5, 6}, {0, 1}}), rat.Of(-7, 1)},
		{plane.Of(1, 0), corners([]spot{{1, 2}, {4, 4}, {2, 9}, {3, 0}}), corners([]spot{{9, 9}, {7, 6}, {6, 5}, {8, 2}, {8, 1}}), rat.Of(2, 1)},
		{plane.Of(0, 1), corners([]spot{{0, -5}, {0, -4}, {0, -6}}), corners([]spot{{0, -9}, {0, -8}}), rat.Of(-5, 1)},
		{plane.Of(0, 0), corners([]spot{{1, 2}}), corners([]spot{{5, 6}, {5, 6}}), api.Rat{}},
		{plane.Of(1, 0), corners([]spot{{math.MinInt, 0}}), corners([]spot{{math.MaxInt, 0}}), rat.Sub(rat.Of(math.MaxInt, 1), rat.Of(math.MinInt, 1))},
		{plane.Of(math.MinInt, 0), corners([]spot{{math.MinInt, 0}}), corners([]spot{{0, math.MaxInt}}), rat.Neg(rat.Mul(rat.Of(math.MinInt, 1), rat.Of(math.MinInt, 1)))},
	} {
		if got := apart.Gap(c.n, c.a, c.b); !identical(got, c.want) {
			t.Errorf("P8.1: the gap of %s between %s and %s is %s", show(c.n), show(c.a), show(c.b), show(got))
		}
	}
}

func TestKnownRooms(t *testing.T) {
	for _, c := range []struct {
		n       api.Vec
		e, want api.Rat
	}{
		{plane.Of(0, 0), rat.Of(7, 1), api.Rat{}},
		{plane.Of(0, 0), rat.Of(-7, 2), api.Rat{}},
		{plane.Of(1, 0), rat.Of(7, 1), rat.Of(7, 1)},
		{plane.Of(0, -1), rat.Of(7, 1), rat.Of(7, 1)},
		{plane.Of(3, 4), rat.Of(2, 1), rat.Of(14, 1)},
		{plane.Of(-3, 4), rat.Of(2, 1), rat.Of(14, 1)},
		{plane.Of(3, -4), rat.Of(2, 1), rat.Of(14, 1)},
		{plane.Of(-3, -4), rat.Of(-2, 1), rat.Of(-14, 1)},
		{plane.Of(-3, -4), api.Rat{}, api.Rat{}},
		{api.Vec{X: rat.Of(1, 2), Y: rat.Of(-1, 3)}, rat.Of(3, 5), rat.Of(1, 2)},
		{api.Vec{X: rat.Of(-1, 6), Y: rat.Of(-1, 6)}, rat.Of(-3, 1), rat.Of(-1, 1)},
		{plane.Of(math.MinInt, math.MinInt), rat.Of(1, 2), rat.Neg(rat.Of(math.MinInt, 1))},
	} {
		if got := apart.Room(c.n, c.e); !identical(got, c.want) {
			t.Errorf("P8.1: the room of %s for %s is %s", show(c.n), show(c.e), show(got))
		}
	}
}

func TestKnownDirections(t *testing.T) {
	axes := []spot{{1, 0}, {0, 1}, {-1, 0}, {0, -1}}
	for _, c := range []struct{ a, b, want []spot }{
		{shapes()["square"], moved(shapes()["square"], 3, 0), []spot{{0, -2}, {2, 0}, {0, 2}, {-2, 0}, {0, 2}, {-2, 0}, {0, -2}, {2, 0}}},
		{[]spot{{0, 0}, {3, 1}, {1, 4}}, []spot{{5, 5}, {5, 7}, {4, 6}}, []spot{{1, -3}, {3, 2}, {-4, 1}, {-2, 0}, {1, -1}, {1, 1}}},
		{[]spot{{5, 5}, {5, 7}, {4, 6}}, []spot{{0, 0}, {3, 1}, {1, 4}}, []spot{{2, 0}, {-1, 1}, {-1, -1}, {-1, 3}, {-3, -2}, {4, -1}}},
		// The side of one corner leads back to it, and of two corners there and back.
		{[]spot{{3, 4}}, []spot{{7, 9}}, []spot{{0, 0}, {0, 0}}},
		{[]spot{{3, 4}, {5, 9}}, []spot{{7, 9}}, []spot{{5, -2}, {-5, 2}, {0, 0}}},
		{[]spot{{3, 4}}, []spot{{7, 9}, {7, 9}}, []spot{{0, 0}, {0, 0}, {0, 0}}},
		{[]spot{{1, 0}, {0, 0}}, []spot{{0, 1}, {0, 0}}, []spot{{0, 1}, {0, -1}, {1, 0}, {-1, 0}}},
		// Clockwise lists, corners on a line, and sides that cross.
		{[]spot{{0, 0}, {0, 2}, {2, 2}, {2, 0}}, []spot{{0, 0}, {1, 1}, {2, 2}}, []spot{{2, 0}, {0, -2}, {-2, 0}, {0, 2}, {-1, 1}, {-1, 1}, {2, -2}}},
		{[]spot{{0, 0}, {4, 4}, {4, 0}, {0, 4}}, []spot{{1, 1}, {1, 1}, {3, 2}}, []spot{{4, -4}, {-4, 0}, {4, 4}, {-4, 0}, {0, 0}, {-1, 2}, {1, -2}}},
	} {
		if got := apart.Dirs(corners(c.a), corners(c.b)); !sameList(got, corners(append(c.want, axes...))) {
			t.Errorf("P8.2: the directions of %v and %v are %s", c.a, c.b, show(got))
		}
	}
}

// checkGap compares the directions of two lists, their gaps, and those of another direction, with the model.
func checkGap(t *testing.T, a, b []vec, n vec, e *big.Rat) {
	t.Helper()
	first, second := vectors(a), vectors(b)
	all := dirs(a, b)
	if got := apart.Dirs(first, second); !sameList(got, vectors(all)) {
		t.Fatalf("P8.2: the directions of %s and %s are %s", show(a), show(b), show(got))
	}
	for _, n := range append(all, n) {
		if got := apart.Gap(vector(n), first, second); !identical(got, number(gap(n, a, b))) {
			t.Fatalf("P8.1: the gap of %s between %s and %s is %s", show(vector(n)), show(a), show(b), show(got))
		}
		if got := apart.Room(vector(n), number(e)); !identical(got, number(times(e, length(n)))) {
			t.Fatalf("P8.1: the room of %s for %s is %s", show(vector(n)), show(e), show(got))
		}
	}
}

// Lists of any number of corners on a small grid, most of which are no shapes: equal corners, those on a line, and clockwise ones.
func TestGapsOnGrids(t *testing.T) {
	r := rand.New(rand.NewPCG(8, 2))
	f := frame{vec{big.NewRat(1, 3), whole(0)}, vec{whole(0), big.NewRat(1, 2)}, vec{big.NewRat(-1, 2), whole(-1)}}
	for k := range 700 {
		a, b := f.list(randomSpots(r, 1+k%5, 4)), f.list(randomSpots(r, 1+k%7, 4))
		checkGap(t, a, b, spot{r.IntN(7) - 3, r.IntN(7) - 3}.vec(), big.NewRat(int64(r.IntN(9)-4), 3))
	}
}

func TestGapsOfLists(t *testing.T) {
	r := rand.New(rand.NewPCG(8, 3))
	list := func(n, digits int) []vec {
		var l []vec
		for range n {
			l = append(l, randomVec(r, digits))
		}
		return l
	}
	for k := range 120 {
		checkGap(t, list(1+k%13, 1+k%17), list(1+k%14, 1+k%19), randomVec(r, 1+k%40), random(r, 1+k%50))
	}
	checkGap(t, list(3, 400), list(2, 300), randomVec(r, 500), random(r, 600))
	checkGap(t, list(100, 3), list(90, 2), randomVec(r, 3), random(r, 2))
	many := list(20000, 5)
	n := randomVec(r, 9)
	if got := apart.Gap(vector(n), vectors(many[:9000]), vectors(many[9000:])); !identical(got, number(gap(n, many[:9000], many[9000:]))) {
		t.Errorf("P8.1: the gap between long lists is %s", show(got))
	}
}

// The least and the greatest product may belong to any of the corners.
func TestGapsAtAnyCorner(t *testing.T) {
	for n := 1; n <= 13; n++ {
		for k := range n {
			a, b := make([]spot, n), make([]spot, n)
			a[k], b[k] = spot{3, 0}, spot{0, -5}
			if got := apart.Gap(plane.Of(1, 1), corners(a), corners(b)); !identical(got, rat.Of(-8, 1)) {
				t.Errorf("P8.1: the gap is %s at the corner %d of %d", show(got), k, n)
			}
			a[k], b[k] = spot{-3, 0}, spot{0, 5}
			if got := apart.Gap(plane.Of(1, 1), corners(a), corners(b)); n > 1 && !identical(got, api.Rat{}) {
				t.Errorf("P8.1: the gap is %s beside the corner %d of %d", show(got), k, n)
			}
		}
	}
}
