package polygon_test

import (
	"math"
	"math/big"
	"math/rand/v2"
	"testing"

	"sherd/api"
	"sherd/plane"
	"sherd/polygon"
	"sherd/rat"
)

func TestKnownPoints(t *testing.T) {
	third := rat.Of(1, 3)
	for _, c := range []struct {
		shape string
		p     api.Vec
		want  int
	}{
		{"square", plane.Of(4, 1), 0},
		{"square", plane.Of(5, 1), -1},
		{"square", plane.Of(2, 2), 1},
		{"square", plane.Of(0, 0), 0},
		{"square", plane.Of(4, 4), 0},
		{"square", plane.Of(2, 0), 0},
		{"square", plane.Of(-1, 0), -1},
		{"square", plane.Of(5, 0), -1},
		{"square", plane.Of(-1, 4), -1},
		{"square", plane.Of(5, 4), -1},
		{"square", plane.Of(0, 5), -1},
		{"square", plane.Of(4, -1), -1},
		{"square", plane.Of(math.MinInt, 2), -1},
		{"square", plane.Of(math.MaxInt, 2), -1},
		{"square", plane.Of(2, math.MinInt), -1},
		{"square", plane.Of(2, math.MaxInt), -1},
		{"square", api.Vec{X: third, Y: third}, 1},
		{"square", api.Vec{X: third, Y: rat.Of(4, 1)}, 0},
		{"square", api.Vec{X: rat.Neg(third), Y: third}, -1},
		{"angle", plane.Of(3, 3), -1},
		{"angle", plane.Of(2, 2), 0},
		{"angle", plane.Of(1, 2), 1},
		{"angle", plane.Of(3, 2), 0},
		{"angle", plane.Of(1, 1), 1},
		{"angle", plane.Of(5, 2), -1},
		{"angle", plane.Of(-1, 2), -1},
		{"angle", plane.Of(3, 4), -1},
		{"diamond", plane.Of(4, 4), 1},
		{"diamond", plane.Of(-1, 4), -1},
		{"diamond", plane.Of(9, 4), -1},
		{"diamond", plane.Of(0, 4), 0},
		{"diamond", plane.Of(1, 4), 1},
		{"diamond", plane.Of(3, 0), -1},
		{"diamond", plane.Of(3, 8), -1},
		{"diamond", plane.Of(2, 2), 0},
		{"notch", plane.Of(2, 2), -1},
		{"notch", plane.Of(2, 1), 0},
		{"notch", plane.Of(1, 1), 1},
		{"notch", plane.Of(3, 1), 1},
		{"notch", plane.Of(-1, 1), -1},
		{"notch", plane.Of(1, 4), -1},
		{"comb", plane.Of(-1, 6), -1},
		{"comb", plane.Of(4, 3), 1},
		{"comb", halves(5, 9), -1},
		{"comb", halves(11, 6), -1},
		{"comb", plane.Of(-1, 2), -1},
		{"comb", plane.Of(1, 2), 1},
		{"comb", plane.Of(4, 2), 1},
		{"comb", plane.Of(9, 2), -1},
		{"comb", halves(5, 4), 0},
		{"spiral", plane.Of(3, 3), -1},
		{"spiral", plane.Of(3, 5), 1},
		{"spiral", plane.Of(5, 5), -1},
		{"spiral", plane.Of(3, 7), 1},
		{"spiral", plane.Of(7, 5), 1},
		{"star", plane.Of(0, 0), 1},
		{"star", plane.Of(-9, 0), -1},
		{"star", plane.Of(-7, 0), 1},
		{"star", plane.Of(-11, 1), -1},
	} {
		if got := polygon.Has(corners(shapes()[c.shape]), c.p); got != c.want {
			t.Errorf("P6.3: Has(%s, %s) is %d", c.shape, show(c.p), got)
		}
	}
}

// size returns the greatest coordinate that a list of spots needs.
func size(l []spot) int {
	most := 0
	for _, p := range l {
		most = max(most, p.x, -p.x, p.y, -p.y)
	}
	return most
}

// doubled returns the list with all coordinates doubled, in which the middles of spots are spots.
func doubled(l []spot) []spot {
	var m []spot
	for _, p := range l {
		m = append(m, spot{2 * p.x, 2 * p.y})
	}
	return m
}

// checkPoints compares where all points with whole and half coordinates in and around a polygon are with the model.
func checkPoints(t *testing.T, l []spot) {
	t.Helper()
	made, twin := corners(l), doubled(l)
	for x := -2*size(l) - 2; x <= 2*size(l)+2; x++ {
		for y := -2*size(l) - 2; y <= 2*size(l)+2; y++ {
			want := has(twin, spot{x, y})
			if got := polygon.Has(made, halves(x, y)); got != want {
				t.Fatalf("P6.3: Has(%v, (%d/2, %d/2)) is %d", l, x, y, got)
			}
		}
	}
}

func TestHas(t *testing.T) {
	for _, l := range shapes() {
		if size(l) < 100 {
			checkPoints(t, l)
		}
	}
	r := rand.New(rand.NewPCG(6, 9))
	for k := range 150 {
		checkPoints(t, randomPolygon(r, 3+k%10, 3+k%4))
	}
}

// Pick's theorem: the points of a lattice that are inside, and half of those on a side, are one more than the area.
func TestPointsMakeTheArea(t *testing.T) {
	r := rand.New(rand.NewPCG(6, 10))
	l := [][]spot{shapes()["angle"], shapes()["comb"], shapes()["star"], shapes()["spiral"]}
	for k := range 60 {
		l = append(l, randomPolygon(r, 3+k%10, 9))
	}
	for _, m := range l {
		made, sum := corners(m), api.Rat{}
		for x := -size(m); x <= size(m); x++ {
			for y := -size(m); y <= size(m); y++ {
				sum = rat.Add(sum, rat.Of(1+polygon.Has(made, plane.Of(x, y)), 2))
			}
		}
		if !identical(rat.Sub(sum, rat.Of(1, 1)), polygon.Area(made)) {
			t.Fatalf("P6.3: %s points are inside or on a side of %v, whose area is %s", show(sum), m, show(polygon.Area(made)))
		}
	}
}

// Numbers of many digits: where a spot is does not change in any frame.
func TestHasInFrames(t *testing.T) {
	r := rand.New(rand.NewPCG(6, 11))
	for k := range 150 {
		digits := 1 + k%25
		if k < 3 {
			digits = 300
		}
		f, l := randomFrame(r, digits), randomPolygon(r, 3+k%10, 6)
		made := vectors(f.list(l))
		for range 12 {
			p := spot{r.IntN(8) - 1, r.IntN(8) - 1}
			if got := polygon.Has(made, vector(f.put(p))); got != has(l, p) {
				t.Fatalf("P6.3: Has(%s, %s) is %d", show(made), show(f.put(p)), got)
			}
		}
	}
}

// Points on sides, and very near to them, to both sides.
func TestHasByLittle(t *testing.T) {
	r := rand.New(rand.NewPCG(6, 12))
	for k := range 120 {
		digits := 1 + k%30
		l := randomFrame(r, digits).list(randomPolygon(r, 3+k%10, 6))
		made := vectors(l)
		for i, v := range l {
			w := l[(i+1)%len(l)]
			side := add(w, scale(v, big.NewRat(-1, 1)))
			p := add(v, scale(side, big.NewRat(int64(1+r.IntN(9)), 10)))
			// A step to the left of the side that is too short to reach any other one.
			step := scale(vec{new(big.Rat).Neg(side.y), side.x}, small(12*digits+12))
			for turn, q := range []vec{add(p, scale(step, big.NewRat(-1, 1))), p, add(p, step)} {
				if got := polygon.Has(made, vector(q)); got != turn-1 {
					t.Fatalf("P6.3: Has(%s, %s) is %d", show(made), show(q), got)
				}
			}
			if got := polygon.Has(made, vector(v)); got != 0 {
				t.Fatalf("P6.3: Has(%s, %s) is %d", show(made), show(v), got)
			}
		}
	}
}
