package polygon_test

import (
	"math"
	"math/big"
	"math/rand/v2"
	"testing"

	"sherd/api"
	"sherd/plane"
	"sherd/polygon"
	"sherd/rat"
)

func TestKnownAreas(t *testing.T) {
	for _, c := range []struct {
		name   string
		l      []api.Vec
		area   api.Rat
		center api.Vec
	}{
		{"no corner", nil, api.Rat{}, api.Vec{}},
		{"one corner", []api.Vec{plane.Of(7, -3)}, api.Rat{}, api.Vec{}},
		{"two corners", []api.Vec{plane.Of(7, -3), plane.Of(2, 5)}, api.Rat{}, api.Vec{}},
		{"corners on a line", []api.Vec{plane.Of(1, 1), plane.Of(3, 2), plane.Of(7, 4)}, api.Rat{}, api.Vec{}},
		{"equal corners", []api.Vec{plane.Of(1, 1), plane.Of(1, 1), plane.Of(1, 1)}, api.Rat{}, api.Vec{}},
		{"sides that cross", corners([]spot{{0, 0}, {4, 4}, {4, 0}, {0, 4}}), api.Rat{}, api.Vec{}},
		{"the square", corners(shapes()["square"]), rat.Of(16, 1), plane.Of(2, 2)},
		{"the clockwise square", corners(reversed(shapes()["square"])), rat.Of(-16, 1), plane.Of(2, 2)},
		{"the square twice", corners(append(shapes()["square"], shapes()["square"]...)), rat.Of(32, 1), plane.Of(2, 2)},
		{"the angle", corners(shapes()["angle"]), rat.Of(12, 1), api.Vec{X: rat.Of(5, 3), Y: rat.Of(5, 3)}},
		{"the angle elsewhere", corners([]spot{{-9, 7}, {-5, 7}, {-5, 9}, {-7, 9}, {-7, 11}, {-9, 11}}), rat.Of(12, 1), api.Vec{X: rat.Of(-22, 3), Y: rat.Of(26, 3)}},
		{"a triangle", corners([]spot{{0, 0}, {3, 1}, {1, 4}}), rat.Of(11, 2), api.Vec{X: rat.Of(4, 3), Y: rat.Of(5, 3)}},
		{"a triangle of halves", []api.Vec{halves(1, 0), halves(2, 1), halves(0, 1)}, rat.Of(1, 4), api.Vec{X: rat.Of(1, 2), Y: rat.Of(1, 3)}},
		{"the dart", corners(shapes()["dart"]), rat.Of(8, 1), api.Vec{X: rat.Of(2, 1), Y: rat.Of(2, 1)}},
		{"the diamond", corners(shapes()["diamond"]), rat.Of(32, 1), plane.Of(4, 4)},
		{"a corner in the middle of a side", corners([]spot{{0, 0}, {2, 0}, {4, 0}, {4, 4}, {0, 4}}), rat.Of(16, 1), plane.Of(2, 2)},
		{"a spike", corners([]spot{{0, 0}, {9, 0}, {4, 0}, {4, 4}, {0, 4}}), rat.Of(16, 1), plane.Of(2, 2)},
		{"all ints", corners([]spot{{math.MinInt, math.MinInt}, {math.MaxInt, math.MinInt}, {math.MaxInt, math.MaxInt}, {math.MinInt, math.MaxInt}}),
			api.Rat{P: api.Int{D: []int{349108225, 481119284, 938463426, 282366920, 340}}}, halves(-1, -1)},
	} {
		if got := polygon.Area(c.l); !identical(got, c.area) {
			t.Errorf("P6.2: the area is %s: %s", show(got), c.name)
		}
		if got := polygon.Center(c.l); !sameVec(got, c.center) {
			t.Errorf("P6.2: the centroid is %s: %s", show(got), c.name)
		}
	}
}

// checkArea compares the area, the centroid and the box of a list with the model.
func checkArea(t *testing.T, l []vec) {
	t.Helper()
	made := vectors(l)
	checkNumber(t, "P6.2", polygon.Area(made), area(l), made)
	checkVec(t, "P6.2", polygon.Center(made), center(l), made)
	lo, hi := polygon.Box(made)
	if len(l) == 0 {
		checkVec(t, "P6.4", lo, add(), made)
		checkVec(t, "P6.4", hi, add(), made)
		return
	}
	low, high := box(l)
	checkVec(t, "P6.4", lo, low, made)
	checkVec(t, "P6.4", hi, high, made)
}

// Lists of any number of corners, most of which are no valid polygons.
func TestAreasOfLists(t *testing.T) {
	r := rand.New(rand.NewPCG(6, 5))
	for k := range 900 {
		var l []vec
		for range k % 31 {
			l = append(l, randomVec(r, 1+k%23))
		}
		checkArea(t, l)
	}
	var l []vec
	for range 4 {
		l = append(l, randomVec(r, 900))
	}
	checkArea(t, l)
	checkArea(t, randomFrame(r, 5).list(randomSpots(r, 3000, 1000)))
}

// Lists of few corners on a small grid: equal ones, areas of 0, and clockwise lists.
func TestAreasOnGrids(t *testing.T) {
	third := big.NewRat(1, 3)
	f := frame{vec{third, new(big.Rat)}, vec{new(big.Rat), third}, vec{big.NewRat(-1, 2), big.NewRat(5, 1)}}
	r := rand.New(rand.NewPCG(6, 6))
	for k := range 4000 {
		checkArea(t, f.list(randomSpots(r, k%7, 3)))
	}
}

func TestKnownBoxes(t *testing.T) {
	for _, c := range []struct {
		name   string
		l      []api.Vec
		lo, hi api.Vec
	}{
		{"no corner", nil, api.Vec{}, api.Vec{}},
		{"one corner", []api.Vec{plane.Of(7, -3)}, plane.Of(7, -3), plane.Of(7, -3)},
		{"two corners", []api.Vec{plane.Of(7, -3), plane.Of(2, -1)}, plane.Of(2, -3), plane.Of(7, -1)},
		{"positive coordinates", []api.Vec{plane.Of(7, 3), plane.Of(9, 5), halves(15, 7)}, plane.Of(7, 3), plane.Of(9, 5)},
		{"negative coordinates", []api.Vec{plane.Of(-7, -3), plane.Of(-9, -5), halves(-19, -9)}, halves(-19, -10), plane.Of(-7, -3)},
		{"the diamond", corners(shapes()["diamond"]), plane.Of(0, 0), plane.Of(8, 8)},
		{"sides that cross", corners([]spot{{0, 0}, {4, 4}, {4, 0}, {0, 4}}), plane.Of(0, 0), plane.Of(4, 4)},
		{"numbers that differ by little", []api.Vec{{X: rat.Of(1, 3), Y: rat.Of(1, 2)}, {X: rat.Of(333333333, 1000000000), Y: rat.Of(500000001, 1000000000)}},
			api.Vec{X: rat.Of(333333333, 1000000000), Y: rat.Of(1, 2)}, api.Vec{X: rat.Of(1, 3), Y: rat.Of(500000001, 1000000000)}},
		{"13 corners", corners(parabola(13)), plane.Of(0, 0), plane.Of(12, 144)},
		{"the ends of the ints", []api.Vec{plane.Of(0, 0), plane.Of(math.MinInt, math.MaxInt), plane.Of(math.MaxInt, math.MinInt)}, plane.Of(math.MinInt, math.MinInt), plane.Of(math.MaxInt, math.MaxInt)},
	} {
		if lo, hi := polygon.Box(c.l); !sameVec(lo, c.lo) || !sameVec(hi, c.hi) {
			t.Errorf("P6.4: the box is from %s to %s: %s", show(lo), show(hi), c.name)
		}
	}
}

// moment returns the area times the centroid.
func moment(l []api.Vec) api.Vec { return plane.Scale(polygon.Center(l), polygon.Area(l)) }

// P6.8 for all pairs of corners of a list.
func checkParts(t *testing.T, l []api.Vec) {
	t.Helper()
	whole := polygon.Area(l)
	for i := range l {
		for j := i + 1; j < len(l); j++ {
			first := append([]api.Vec{}, l[i:j+1]...)
			second := append(append([]api.Vec{}, l[j:]...), l[:i+1]...)
			a, b := polygon.Area(first), polygon.Area(second)
			if !identical(rat.Add(a, b), whole) {
				t.Fatalf("P6.8: the areas of both parts of %s, divided at %d and %d, do not add up", show(l), i, j)
			}
			if rat.Sign(a) == 0 || rat.Sign(b) == 0 || rat.Sign(whole) == 0 {
				continue
			}
			if !sameVec(plane.Add(moment(first), moment(second)), moment(l)) {
				t.Fatalf("P6.8: the centroids of both parts of %s, divided at %d and %d, do not fit", show(l), i, j)
			}
		}
	}
}

func TestParts(t *testing.T) {
	for _, l := range shapes() {
		checkParts(t, corners(l))
		checkParts(t, corners(reversed(l)))
	}
	r := rand.New(rand.NewPCG(6, 7))
	for k := range 150 {
		checkParts(t, vectors(randomFrame(r, 1+k%12).list(randomPolygon(r, 3+k%10, 9))))
		checkParts(t, corners(randomSpots(r, k%14, 4)))
	}
	checkParts(t, vectors(randomFrame(r, 200).list(shapes()["star"])))
}

// A triangle has the centroid in the middle of its corners.
func TestTriangles(t *testing.T) {
	r := rand.New(rand.NewPCG(6, 8))
	for k := range 500 {
		l := []vec{randomVec(r, 1+k%30), randomVec(r, 1+k%30), randomVec(r, 1+k%30)}
		if area(l).Sign() == 0 {
			continue
		}
		checkVec(t, "P6.2", polygon.Center(vectors(l)), scale(add(l...), big.NewRat(1, 3)), vectors(l))
	}
}
