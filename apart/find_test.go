package apart_test

import (
	"math"
	"math/big"
	"math/rand/v2"
	"testing"

	"sherd/apart"
	"sherd/api"
	"sherd/plane"
	"sherd/polygon"
	"sherd/rat"
)

func TestKnownFinds(t *testing.T) {
	square, diamond, triangle := shapes()["square"], shapes()["diamond"], shapes()["triangle"]
	none := spot{0, 0}
	for _, c := range []struct {
		name string
		a, b []spot
		e    api.Rat
		want spot
	}{
		// The examples of the chapter.
		{"the squares", square, moved(square, 3, 0), rat.Of(1, 1), spot{2, 0}},
		{"the squares by less", square, moved(square, 3, 0), rat.Of(1, 2), spot{2, 0}},
		{"the squares by 0", square, moved(square, 3, 0), api.Rat{}, spot{2, 0}},
		{"the squares by more", square, moved(square, 3, 0), rat.Of(100001, 100000), none},
		{"the squares that overlap", square, moved(square, 1, 1), api.Rat{}, none},
		{"the squares that overlap, by their depth", square, moved(square, 1, 1), rat.Of(-1, 1), spot{2, 0}},
		{"the squares that overlap, by less", square, moved(square, 1, 1), rat.Of(-99, 100), none},
		{"the squares that touch", square, moved(square, 2, 2), api.Rat{}, spot{2, 0}},
		// By a negative margin all directions may separate them, and the first one is returned.
		{"a negative margin", square, moved(square, 1, 1), rat.Of(-3, 1), spot{0, -2}},
		{"a negative margin that the first direction lacks", square, moved(square, 1, 1), rat.Of(-29, 10), spot{2, 0}},
		{"the same shape", square, square, rat.Of(-2, 1), spot{0, -2}},
		{"the same shape by more", square, square, rat.Of(-19, 10), none},
		{"one in the other", square, []spot{{1, 1}, {2, 1}, {2, 2}, {1, 2}}, rat.Of(-1, 1), spot{2, 0}},
		{"one in the other by more", square, []spot{{1, 1}, {2, 1}, {2, 2}, {1, 2}}, rat.Of(-9, 10), none},
		// Shapes that touch.
		{"along a side", square, moved(square, 0, 2), api.Rat{}, spot{0, 2}},
		{"along a part of a side", square, moved(square, -2, 1), api.Rat{}, spot{-2, 0}},
		{"in a corner", square, []spot{{2, 2}, {4, 3}, {3, 4}}, api.Rat{}, spot{2, 0}},
		{"in a corner on a side", square, []spot{{1, 0}, {0, -1}, {2, -1}}, api.Rat{}, spot{0, -2}},
		{"by more than 0", square, moved(square, 0, 2), rat.Of(1, 1000000), none},
		// Only one direction separates them.
		{"a normal of the first one", triangle, []spot{{2, 4}, {3, 2}, {4, 4}}, rat.Of(2, 5), spot{3, 2}},
		{"the same, by more", triangle, []spot{{2, 4}, {3, 2}, {4, 4}}, rat.Of(41, 100), none},
		{"a normal of the second one", []spot{{2, 4}, {3, 2}, {4, 4}}, triangle, rat.Of(2, 5), spot{-3, -2}},
		{"the same, second, by more", []spot{{2, 4}, {3, 2}, {4, 4}}, triangle, rat.Of(41, 100), none},
		{"an axis to the right", diamond, moved(diamond, 4, 0), rat.Of(2, 1), spot{1, 0}},
		{"an axis to the left", diamond, moved(diamond, -4, 0), rat.Of(2, 1), spot{-1, 0}},
		{"an axis upwards", diamond, moved(diamond, 0, 4), rat.Of(3, 2), spot{0, 1}},
		{"an axis downwards", diamond, moved(diamond, 0, -4), rat.Of(3, 2), spot{0, -1}},
		{"diamonds by 1", diamond, moved(diamond, 4, 0), rat.Of(1, 1), spot{1, -1}},
		{"diamonds by 0", diamond, moved(diamond, 4, 0), api.Rat{}, spot{1, -1}},
		{"diamonds by more", diamond, moved(diamond, 4, 0), rat.Of(201, 100), none},
		// Directions that are there twice: the outward normal of one shape is the negative one of a side of the other one, and that of an axis.
		{"beginning elsewhere", begunAt(square, 2), moved(square, 3, 0), rat.Of(1, 1), spot{2, 0}},
		{"the first of two", []spot{{0, 0}, {1, 0}, {1, 1}, {0, 1}}, moved([]spot{{0, 0}, {3, 0}, {3, 3}, {0, 3}}, 2, 0), rat.Of(1, 1), spot{1, 0}},
		{"the ends of the ints", []spot{{math.MinInt, 0}, {math.MinInt + 1, 0}, {math.MinInt, 1}}, []spot{{math.MaxInt, 0}, {math.MaxInt, 1}, {math.MaxInt - 1, 1}}, rat.Of(math.MaxInt, 1), spot{1, 1}},
	} {
		got, found := apart.Find(corners(c.a), corners(c.b), c.e)
		if !sameVec(got, plane.Of(c.want.x, c.want.y)) || found != (c.want != none) {
			t.Errorf("P8.3: Find returns %s, %v: %s", show(got), found, c.name)
		}
	}
}

// checkFind compares Find with the model, for all margins at which its result changes, and near them.
func checkFind(t *testing.T, a, b []vec, near *big.Rat) {
	t.Helper()
	first, second := vectors(a), vectors(b)
	all := dirs(a, b)
	exact := margins(a, b)
	for k := range exact {
		for _, e := range []*big.Rat{exact[k], plus(exact[k], near), less(exact[k], near)} {
			// A margin at which the first direction separates the shapes need not be asked for again and again.
			if k > 0 && e.Cmp(exact[0]) <= 0 {
				continue
			}
			want, found := api.Vec{}, false
			if at := find(a, b, e); at >= 0 {
				want, found = vector(all[at]), true
			}
			if got, ok := apart.Find(first, second, number(e)); ok != found || !sameVec(got, want) {
				t.Fatalf("P8.3: Find of %s and %s by %s returns %s, %v", show(a), show(b), show(e), show(got), ok)
			}
		}
	}
}

// All shapes on the smallest grid, in all positions near each other, and some on a greater one.
func TestFindsOnGrids(t *testing.T) {
	all := gridShapes(2)
	for _, a := range all {
		for _, b := range all {
			for at := range 9 {
				checkFind(t, plain().list(begunAt(a, at%len(a))), plain().list(moved(begunAt(b, at%len(b)), at/3-1, at%3-1)), big.NewRat(1, 100))
			}
		}
	}
	r := rand.New(rand.NewPCG(8, 4))
	for range 100 {
		checkFind(t, plain().list(some(r)), plain().list(some(r)), small(3))
	}
}

func TestFindsInFrames(t *testing.T) {
	r := rand.New(rand.NewPCG(8, 5))
	for k := range 60 {
		f := randomFrame(r, 1+k%9)
		checkFind(t, f.list(some(r)), f.list(some(r)), small(5+k))
		g := randomFrame(r, 1+k%3)
		checkFind(t, randomFrame(r, 1+k%3).list(some(r)), g.list(some(r)), small(3))
	}
	f := randomFrame(r, 150)
	checkFind(t, f.list(shapes()["triangle"]), f.list(moved(shapes()["needle"], 4, 0)), small(1000))
}

// Shapes that miss each other, or overlap, by very little.
func TestFindsByLittle(t *testing.T) {
	square, other := plain().list(shapes()["square"]), plain().list(moved(shapes()["house"], 3, 1))
	for _, n := range []int{1, 8, 9, 10, 17, 18, 19, 27, 100, 900} {
		little := small(n)
		for _, c := range []struct {
			by    *big.Rat
			found bool
		}{{whole(0), true}, {little, true}, {minus(little), false}} {
			b := vectors(frame{plain().right, plain().up, vec{c.by, minus(little)}}.list(shapes()["house"]))
			for k := range b {
				b[k] = plane.Add(b[k], plane.Of(3, 1))
			}
			if n, found := apart.Find(vectors(square), b, rat.Of(1, 1)); found != c.found || found && !sameVec(n, plane.Of(2, 0)) {
				t.Errorf("P8.3: Find by 1 returns %s, %v for shapes that are apart by 1 and %s", show(n), found, show(c.by))
			}
		}
		if _, found := apart.Find(vectors(square), vectors(other), number(plus(whole(1), little))); found {
			t.Errorf("P8.3: shapes that are apart by 1 are apart by %s more", show(little))
		}
		if _, found := apart.Find(vectors(square), vectors(other), number(less(whole(1), little))); !found {
			t.Errorf("P8.3: shapes that are apart by 1 are not apart by %s less", show(little))
		}
	}
}

// share reports whether two polygons have a point in common: a corner of one is a point of the other, or two sides meet.
func share(a, b []api.Vec) bool {
	if polygon.Has(a, b[0]) >= 0 || polygon.Has(b, a[0]) >= 0 {
		return true
	}
	for k, p := range a {
		for m, q := range b {
			if polygon.Meets(p, a[(k+1)%len(a)], q, b[(m+1)%len(b)]) {
				return true
			}
		}
	}
	return false
}

func TestKnownDepths(t *testing.T) {
	square, diamond, triangle := shapes()["square"], shapes()["diamond"], shapes()["triangle"]
	for _, c := range []struct {
		name string
		a, b []spot
		want api.Rat
	}{
		{"the squares of the chapter", square, moved(square, 3, 0), rat.Of(-1, 1)},
		{"the squares of the chapter that overlap", square, moved(square, 1, 1), rat.Of(1, 1)},
		{"the squares of the chapter that touch", square, moved(square, 2, 2), api.Rat{}},
		{"the same shape", square, square, rat.Of(2, 1)},
		{"the same diamond", diamond, diamond, rat.Of(1, 1)},
		{"one in the other", square, []spot{{1, 1}, {2, 1}, {2, 2}, {1, 2}}, rat.Of(1, 1)},
		{"the other in the one", []spot{{1, 1}, {2, 1}, {2, 2}, {1, 2}}, square, rat.Of(1, 1)},
		{"one inside of the other", moved(diamond, 5, 5), []spot{{-100, -100}, {20, -100}, {20, 100}, {-100, 100}}, rat.Of(16, 1)},
		{"along a part of a side", square, moved(square, -2, 1), api.Rat{}},
		{"in a corner on a side", square, []spot{{1, 0}, {0, -1}, {2, -1}}, api.Rat{}},
		{"a corner in a side", square, []spot{{1, 1}, {0, -1}, {2, -1}}, rat.Of(1, 1)},
		{"a cross", []spot{{-4, -1}, {4, -1}, {4, 1}, {-4, 1}}, []spot{{-1, -4}, {1, -4}, {1, 4}, {-1, 4}}, rat.Of(5, 1)},
		{"a normal of the first one", triangle, []spot{{2, 4}, {3, 2}, {4, 4}}, rat.Of(-2, 5)},
		{"diamonds", diamond, moved(diamond, 4, 0), rat.Of(-2, 1)},
		{"diamonds beside each other", diamond, moved(diamond, 2, 2), rat.Of(-1, 1)},
		{"squares at a corner", square, moved(square, 5, 9), rat.Of(-7, 1)},
		{"the ends of the ints", []spot{{math.MinInt, 0}, {math.MinInt + 1, 0}, {math.MinInt, 1}}, []spot{{math.MaxInt, 0}, {math.MaxInt, 1}, {math.MaxInt - 1, 1}}, rat.Sub(rat.Of(math.MinInt, 1), rat.Of(math.MaxInt-2, 1))},
	} {
		if got := apart.Depth(corners(c.a), corners(c.b)); !identical(got, c.want) {
			t.Errorf("P8.4: the depth is %s: %s", show(got), c.name)
		}
		if got := apart.Meet(corners(c.a), corners(c.b)); got != (rat.Sign(c.want) >= 0) {
			t.Errorf("P8.4: Meet returns %v: %s", got, c.name)
		}
	}
}

// checkDepth compares the depth with both models, and Meet with corners and sides.
func checkDepth(t *testing.T, a, b []vec) {
	t.Helper()
	first, second := vectors(a), vectors(b)
	got := apart.Depth(first, second)
	if !identical(got, number(minus(greatest(a, b)))) {
		t.Fatalf("P8.4: the depth of %s and %s is %s", show(a), show(b), show(got))
	}
	if !identical(got, number(minus(distance(a, b)))) {
		t.Fatalf("P8.7: the depth of %s and %s is %s, and their distance %s", show(a), show(b), show(got), show(distance(a, b)))
	}
	if meet := apart.Meet(first, second); meet != share(first, second) || meet != (rat.Sign(got) >= 0) {
		t.Fatalf("P8.4: Meet of %s and %s, with the depth %s, returns %v", show(a), show(b), show(got), meet)
	}
}

func TestDepthsOnGrids(t *testing.T) {
	all := gridShapes(2)
	for _, a := range all {
		for _, b := range all {
			for at := range 25 {
				checkDepth(t, plain().list(a), plain().list(moved(b, at/5-2, at%5-2)))
			}
		}
	}
	r := rand.New(rand.NewPCG(8, 6))
	for range 300 {
		checkDepth(t, plain().list(some(r)), plain().list(some(r)))
	}
}

func TestDepthsInFrames(t *testing.T) {
	r := rand.New(rand.NewPCG(8, 7))
	for k := range 150 {
		f := randomFrame(r, 1+k%9)
		checkDepth(t, f.list(some(r)), f.list(some(r)))
		checkDepth(t, randomFrame(r, 1+k%3).list(some(r)), randomFrame(r, 1+k%3).list(some(r)))
	}
	f := randomFrame(r, 150)
	checkDepth(t, f.list(shapes()["triangle"]), f.list(moved(shapes()["needle"], 4, 0)))
	checkDepth(t, f.list(shapes()["twelve"]), f.list(shapes()["parabola"]))
}

func TestDepthsByLittle(t *testing.T) {
	for _, n := range []int{1, 8, 9, 10, 17, 18, 19, 27, 100, 900} {
		for _, sign := range []int64{-1, 0, 1} {
			by := times(big.NewRat(sign, 1), small(n))
			f := frame{plain().right, plain().up, vec{plus(whole(3), times(by, whole(2))), by}}
			a, b := vectors(plain().list(shapes()["triangle"])), vectors(f.list(shapes()["house"]))
			// Without this, the corner (3, 1) of the triangle touches the left side of the house.
			if got := apart.Meet(a, b); got != (sign <= 0) {
				t.Errorf("P8.4: Meet returns %v for shapes that are apart by %s", got, show(by))
			}
			checkDepth(t, plain().list(shapes()["triangle"]), f.list(shapes()["house"]))
		}
	}
}
