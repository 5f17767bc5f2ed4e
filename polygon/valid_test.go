package polygon_test

import (
	"math"
	"math/big"
	"math/rand/v2"
	"slices"
	"testing"

	"sherd/api"
	"sherd/plane"
	"sherd/polygon"
	"sherd/rat"
)

func TestKnownLists(t *testing.T) {
	square := []spot{{0, 0}, {4, 0}, {4, 4}, {0, 4}}
	for _, c := range []struct {
		name   string
		l      []spot
		valid  bool
		convex bool
	}{
		{"no corner", nil, false, false},
		{"one corner", []spot{{1, 2}}, false, false},
		{"two corners", []spot{{0, 0}, {4, 0}}, false, false},
		{"a triangle", []spot{{0, 0}, {4, 0}, {0, 4}}, true, true},
		{"a clockwise triangle", []spot{{0, 0}, {0, 4}, {4, 0}}, false, false},
		{"a triangle on a line", []spot{{0, 0}, {2, 1}, {4, 2}}, false, false},
		{"the same corner three times", []spot{{1, 1}, {1, 1}, {1, 1}}, false, false},
		{"two corners, and the first again", []spot{{0, 0}, {4, 0}, {0, 0}}, false, false},
		{"the square", square, true, true},
		{"the clockwise square", []spot{{0, 0}, {0, 4}, {4, 4}, {4, 0}}, false, false},
		{"a square whose sides cross", []spot{{0, 0}, {4, 4}, {4, 0}, {0, 4}}, false, false},
		{"sides that cross, with a positive area", []spot{{0, 0}, {6, 0}, {0, 6}, {1, -1}}, false, false},
		{"a corner twice in a row", []spot{{0, 0}, {4, 0}, {4, 0}, {4, 4}, {0, 4}}, false, false},
		{"the first corner at the end", []spot{{0, 0}, {4, 0}, {4, 4}, {0, 4}, {0, 0}}, false, false},
		{"the square twice", append(square, square...), false, false},
		{"a corner in the middle of a side", []spot{{0, 0}, {2, 0}, {4, 0}, {4, 4}, {0, 4}}, false, false},
		{"a middle of a side at the end", []spot{{0, 0}, {4, 0}, {4, 4}, {0, 4}, {0, 2}}, false, false},
		{"a middle of a side at the beginning", []spot{{0, 2}, {0, 0}, {4, 0}, {4, 4}, {0, 4}}, false, false},
		{"a spike along a side", []spot{{0, 0}, {6, 0}, {4, 0}, {4, 4}, {0, 4}}, false, false},
		{"the angle", []spot{{0, 0}, {4, 0}, {4, 2}, {2, 2}, {2, 4}, {0, 4}}, true, false},
		{"a dart", []spot{{0, 0}, {6, 2}, {2, 2}, {2, 6}}, true, false},
		{"the clockwise dart", []spot{{0, 0}, {2, 6}, {2, 2}, {6, 2}}, false, false},
		{"a corner on a side", []spot{{0, 0}, {4, 0}, {4, 4}, {2, 0}, {0, 4}}, false, false},
		{"a corner next to a side", []spot{{0, 0}, {4, 0}, {4, 4}, {2, 1}, {0, 4}}, true, false},
		{"a corner behind a side", []spot{{0, 0}, {4, 0}, {4, 4}, {2, -1}, {0, 4}}, false, false},
		{"corners that touch", []spot{{0, 0}, {2, 2}, {4, 0}, {4, 4}, {2, 2}, {0, 4}}, false, false},
		{"two squares that touch in a corner", []spot{{0, 0}, {2, 0}, {2, 2}, {4, 2}, {4, 4}, {2, 4}, {2, 2}, {0, 2}}, false, false},
		{"sides that overlap", []spot{{0, 0}, {6, 0}, {6, 2}, {2, 2}, {2, 0}, {4, 0}, {4, -2}, {0, -2}}, false, false},
		{"a bridge that is gone there and back", []spot{{0, 0}, {8, 0}, {8, 8}, {4, 8}, {4, 6}, {6, 6}, {6, 2}, {2, 2}, {2, 6}, {4, 6}, {4, 8}, {0, 8}}, false, false},
		{"a five-pointed star that crosses itself", []spot{{0, 10}, {-6, -8}, {10, 3}, {-10, 3}, {6, -8}}, false, false},
		{"a loop on a loop", []spot{{0, 0}, {9, 0}, {9, 9}, {1, 1}, {8, 1}, {8, 7}}, false, false},
	} {
		l := corners(c.l)
		if polygon.Valid(l) != c.valid {
			t.Errorf("P6.1: Valid is %v: %s", !c.valid, c.name)
		}
		if polygon.Convex(l) != c.convex {
			t.Errorf("P6.1: Convex is %v: %s", !c.convex, c.name)
		}
		if valid(c.l) != c.valid || convex(c.l) != c.convex {
			t.Error("the model is wrong:", c.name)
		}
	}
}

// The corners of a parabola turn to the left all around: only their number decides.
func TestNumbersOfCorners(t *testing.T) {
	for n := range 40 {
		l, want := corners(parabola(n)), n >= 3 && n <= api.MaxCorners
		if polygon.Valid(l) != want || polygon.Convex(l) != want {
			t.Errorf("P6.1: Valid and Convex of %d corners are %v and %v", n, polygon.Valid(l), polygon.Convex(l))
		}
	}
	comb := corners(shapes()["comb"])
	if more := slices.Insert(slices.Clone(comb), 1, plane.Of(4, -1)); len(more) != 13 || polygon.Valid(more) || polygon.Convex(more) {
		t.Error("P6.1: a comb of 13 corners is valid")
	}
}

// others returns other ways to write a number, none of which is valid.
func others(a api.Rat) []api.Rat {
	sign, digits := a.P.Neg, a.P.D
	l := []api.Rat{
		{P: api.Int{Neg: sign, D: append(slices.Clone(digits), 0)}, Q: a.Q},
		{P: a.P, Q: api.Int{D: append(slices.Clone(a.Q.D), 0)}},
		{P: api.Int{Neg: !sign, D: digits}, Q: api.Int{Neg: true, D: []int{1}}},
	}
	if len(a.Q.D) == 0 {
		l = append(l, api.Rat{P: a.P, Q: api.Int{D: []int{1}}})
	}
	if len(digits) == 0 {
		return append(l, api.Rat{P: api.Int{Neg: true}}, api.Rat{Q: api.Int{D: []int{5}}}, api.Rat{Q: api.Int{Neg: true}})
	}
	l = append(l, api.Rat{P: rat.Mul(a, rat.Of(6, 1)).P, Q: rat.Mul(rat.Make(rat.Den(a), api.Int{D: []int{1}}), rat.Of(6, 1)).P})
	return append(l, api.Rat{P: api.Int{Neg: sign, D: append([]int{digits[0] - api.Base, 1}, digits[1:]...)}, Q: a.Q})
}

func TestNumbersThatAreNotCanonical(t *testing.T) {
	for _, l := range [][]api.Vec{
		corners(shapes()["square"]), corners(shapes()["angle"]), corners(parabola(12)),
		{plane.Of(0, 0), halves(7, 1), halves(1, 9)}, {plane.Of(-1<<40, 0), plane.Of(0, -1<<40), plane.Of(1<<40, 1<<40)},
	} {
		for k, a := range l {
			odd := slices.Clone(l)
			for _, x := range others(a.X) {
				if odd[k] = (api.Vec{X: x, Y: a.Y}); polygon.Valid(odd) || polygon.Convex(odd) {
					t.Fatalf("P6.1: %v is valid, although X of the corner %d is not", odd, k)
				}
			}
			for _, y := range others(a.Y) {
				if odd[k] = (api.Vec{X: a.X, Y: y}); polygon.Valid(odd) || polygon.Convex(odd) {
					t.Fatalf("P6.1: %v is valid, although Y of the corner %d is not", odd, k)
				}
			}
		}
		if !polygon.Valid(l) {
			t.Fatal("P6.1: not valid:", show(l))
		}
	}
}

// checkValid compares what is said about lists with the model, also if they begin at another corner or are reversed.
func checkValid(t *testing.T, l []spot) {
	t.Helper()
	made := corners(l)
	if got := polygon.Valid(made); got != valid(l) {
		t.Fatalf("P6.1: Valid(%v) is %v", l, got)
	}
	if got := polygon.Convex(made); got != convex(l) {
		t.Fatalf("P6.1: Convex(%v) is %v", l, got)
	}
}

// All lists of few corners of small grids.
func TestValidOnGrids(t *testing.T) {
	for _, c := range []struct{ corners, size int }{{1, 3}, {2, 3}, {3, 5}, {4, 3}, {5, 3}} {
		l, count := make([]spot, c.corners), 0
		var fill func(k int)
		fill = func(k int) {
			if k == len(l) {
				checkValid(t, l)
				if valid(l) {
					count++
				}
				return
			}
			for x := range c.size {
				for y := range c.size {
					l[k] = spot{x, y}
					fill(k + 1)
				}
			}
		}
		fill(0)
		if c.corners >= 3 && count == 0 {
			t.Error("no list was valid")
		}
	}
}

// Valid polygons, and those in which one or two corners were moved elsewhere, left out, added or exchanged.
func TestValidNearPolygons(t *testing.T) {
	r := rand.New(rand.NewPCG(6, 2))
	counts := map[bool]int{}
	for k := range 1500 {
		size := 3 + k%8
		l := randomPolygon(r, 3+k%10, size)
		checkValid(t, l)
		for range 4 {
			m, i, j := slices.Clone(l), r.IntN(len(l)), r.IntN(len(l))
			switch r.IntN(5) {
			case 0:
				m[i], m[j] = m[j], m[i]
			case 1:
				m = slices.Delete(m, i, i+1)
			case 2:
				m = slices.Insert(m, i, randomSpot(r, size))
			case 3:
				m[j] = randomSpot(r, size)
				fallthrough
			case 4:
				m[i] = randomSpot(r, size)
			}
			checkValid(t, m)
			checkValid(t, reversed(m))
			counts[valid(m)]++
		}
	}
	if counts[true] < 500 || counts[false] < 500 {
		t.Error("the lists are too much alike:", counts)
	}
}

// Numbers of many digits: what was decided for spots holds in each frame that keeps what is to the left, and the opposite in others.
func TestValidInFrames(t *testing.T) {
	r := rand.New(rand.NewPCG(6, 3))
	for k := range 400 {
		digits := 1 + k%25
		if k < 3 {
			digits = 400
		}
		f := randomFrame(r, digits)
		for _, l := range [][]spot{randomPolygon(r, 3+k%8, 6), randomSpots(r, 3+k%3, 4)} {
			made, turned := vectors(f.list(l)), vectors(frame{f.up, f.right, f.at}.list(l))
			if polygon.Valid(made) != valid(l) || polygon.Convex(made) != convex(l) {
				t.Fatalf("P6.1: Valid and Convex are %v and %v: %s", polygon.Valid(made), polygon.Convex(made), show(made))
			}
			if polygon.Valid(turned) != valid(reversed(l)) || polygon.Convex(turned) != convex(reversed(l)) {
				t.Fatalf("P6.1: Valid and Convex are %v and %v: %s", polygon.Valid(turned), polygon.Convex(turned), show(turned))
			}
		}
	}
}

// What decides is less than any number of few digits.
func TestValidByLittle(t *testing.T) {
	one, zero := big.NewRat(1, 1), new(big.Rat)
	for _, n := range []int{1, 5, 9, 10, 18, 19, 20, 60, 400} {
		for sign := -1; sign <= 1; sign++ {
			little := times(small(n), big.NewRat(int64(sign), 1))
			for _, c := range []struct {
				name   string
				l      []vec
				valid  []bool
				convex []bool
			}{
				{"a corner near the middle of a side", []vec{{zero, zero}, {one, little}, {big.NewRat(2, 1), zero}, {one, one}}, []bool{true, false, true}, []bool{true, false, false}},
				{"a corner near the middle of the last side", []vec{{zero, zero}, {one, zero}, {one, one}, {zero, one}, {little, small(1)}}, []bool{true, false, true}, []bool{true, false, false}},
				{"a triangle with nearly no area", []vec{{zero, zero}, {one, zero}, {times(one, big.NewRat(1, 3)), little}}, []bool{false, false, true}, []bool{false, false, true}},
				{"a corner near another side", []vec{{zero, zero}, {one, zero}, {one, one}, {big.NewRat(1, 3), little}, {zero, one}}, []bool{false, false, true}, []bool{false, false, false}},
				{"a corner near another corner", []vec{{zero, zero}, {one, little}, {big.NewRat(2, 1), zero}, {big.NewRat(2, 1), one}, {one, zero}, {zero, one}}, []bool{true, false, false}, []bool{false, false, false}},
			} {
				l := vectors(c.l)
				if polygon.Valid(l) != c.valid[sign+1] || polygon.Convex(l) != c.convex[sign+1] {
					t.Errorf("P6.1: %s, by %d: Valid and Convex are %v and %v: %s", c.name, sign, polygon.Valid(l), polygon.Convex(l), show(l))
				}
			}
		}
	}
}

// The greatest numbers of the program, whose products are none.
func TestValidAtGreatNumbers(t *testing.T) {
	lo, hi := math.MinInt, math.MaxInt
	for _, c := range []struct {
		l      []spot
		valid  bool
		convex bool
	}{
		{[]spot{{lo, lo}, {hi, lo}, {hi, hi}, {lo, hi}}, true, true},
		{[]spot{{lo, lo}, {lo, hi}, {hi, hi}, {hi, lo}}, false, false},
		{[]spot{{lo, lo}, {hi, lo}, {0, 0}, {lo, hi}}, true, true},
		{[]spot{{lo, lo}, {hi, lo}, {0, -1}, {lo, hi}}, false, false},
		{[]spot{{lo, lo}, {hi, lo}, {-1, -1}, {lo, hi}}, true, false},
		{[]spot{{lo, lo}, {hi, lo}, {hi, hi}, {0, 0}}, false, false},
		{[]spot{{lo, lo}, {hi, lo}, {hi, hi}, {-1, 0}}, true, true},
		{[]spot{{lo, lo}, {hi, lo}, {hi, hi}, {0, -1}}, true, false},
		{[]spot{{lo, lo}, {hi, hi}, {hi, lo}, {lo, hi}}, false, false},
	} {
		if l := corners(c.l); polygon.Valid(l) != c.valid || polygon.Convex(l) != c.convex {
			t.Errorf("P6.1: Valid and Convex of %v are %v and %v", c.l, !c.valid, !c.convex)
		}
	}
}

// P1: Valid and Convex take any lists, end and do not panic.
func TestAnyLists(t *testing.T) {
	r := rand.New(rand.NewPCG(6, 4))
	odd := func() api.Int {
		var d []int
		for range r.IntN(4) {
			d = append(d, []int{0, 1, 3, 5, 999999999, api.Base, -1, math.MinInt, math.MaxInt, r.Int()}[r.IntN(10)])
		}
		return api.Int{Neg: r.IntN(2) == 0, D: d}
	}
	for k := range 20000 {
		l := corners(randomSpots(r, r.IntN(15), 5))
		if k%4 == 0 {
			l = corners(randomPolygon(r, 6, 5))
		}
		canonical := true
		for i := range l {
			for _, a := range []*api.Rat{&l[i].X, &l[i].Y} {
				if r.IntN(2*len(l)) == 0 {
					*a = api.Rat{P: odd(), Q: odd()}
				}
				canonical = canonical && rat.Valid(*a)
			}
		}
		if polygon.Convex(l) && !polygon.Valid(l) || polygon.Valid(l) && !canonical {
			t.Fatalf("P6.1: Valid(%v) is %v", l, polygon.Valid(l))
		}
	}
	long := corners(randomSpots(r, 300000, 1000))
	if polygon.Valid(long) || polygon.Convex(long) {
		t.Error("P6.1: a long list is valid")
	}
}
