package polygon_test

import (
	"math"
	"math/big"
	"math/rand/v2"
	"testing"

	"sherd/api"
	"sherd/plane"
	"sherd/polygon"
	"sherd/rat"
)

// checkMeets asks for two segments in both orders, and for all orders of their ends.
func checkMeets(t *testing.T, want bool, a, b, c, d api.Vec) {
	t.Helper()
	for k, l := range [][4]api.Vec{{a, b, c, d}, {b, a, c, d}, {a, b, d, c}, {b, a, d, c}, {c, d, a, b}, {d, c, a, b}, {c, d, b, a}, {d, c, b, a}} {
		if polygon.Meets(l[0], l[1], l[2], l[3]) != want {
			t.Fatalf("P6.5: Meets(%s) is %v (order %d)", show(l[:]), !want, k)
		}
	}
}

func TestKnownSegments(t *testing.T) {
	for _, c := range []struct {
		name       string
		a, b, c, d api.Vec
		want       bool
	}{
		{"they cross", plane.Of(0, 0), plane.Of(4, 4), plane.Of(0, 4), plane.Of(4, 0), true},
		{"they cross at a right angle", plane.Of(0, 2), plane.Of(4, 2), plane.Of(1, 0), plane.Of(1, 9), true},
		{"an end is in the middle", plane.Of(0, 0), plane.Of(4, 0), plane.Of(2, 0), plane.Of(3, 5), true},
		{"an end is on the line, but outside", plane.Of(0, 0), plane.Of(4, 0), plane.Of(5, 0), plane.Of(3, 5), false},
		{"the lines cross outside of one", plane.Of(0, 0), plane.Of(4, 0), plane.Of(2, 1), plane.Of(3, 5), false},
		{"the lines cross outside of both", plane.Of(0, 0), plane.Of(1, 1), plane.Of(4, 0), plane.Of(3, 1), false},
		{"the boxes overlap", plane.Of(0, 0), plane.Of(4, 4), plane.Of(2, 1), plane.Of(5, 3), false},
		{"a common end", plane.Of(0, 0), plane.Of(4, 4), plane.Of(4, 4), plane.Of(5, 0), true},
		{"equal", plane.Of(0, 0), plane.Of(4, 3), plane.Of(0, 0), plane.Of(4, 3), true},
		{"parallel", plane.Of(0, 0), plane.Of(4, 4), plane.Of(1, 0), plane.Of(5, 4), false},
		{"parallel to an axis", plane.Of(0, 0), plane.Of(4, 0), plane.Of(0, 1), plane.Of(4, 1), false},
		{"on a line, overlapping", plane.Of(0, 0), plane.Of(4, 2), plane.Of(2, 1), plane.Of(6, 3), true},
		{"on a line, one in the other", plane.Of(0, 0), plane.Of(6, 3), plane.Of(2, 1), plane.Of(4, 2), true},
		{"on a line, touching", plane.Of(0, 0), plane.Of(2, 1), plane.Of(2, 1), plane.Of(6, 3), true},
		{"on a line, apart", plane.Of(0, 0), plane.Of(2, 1), plane.Of(4, 2), plane.Of(6, 3), false},
		{"on an upright line, overlapping", plane.Of(1, 0), plane.Of(1, 4), plane.Of(1, 2), plane.Of(1, 9), true},
		{"on an upright line, touching", plane.Of(1, 0), plane.Of(1, 4), plane.Of(1, 4), plane.Of(1, 9), true},
		{"on an upright line, apart", plane.Of(1, 0), plane.Of(1, 4), plane.Of(1, 5), plane.Of(1, 9), false},
		{"on a level line, apart", plane.Of(0, 1), plane.Of(4, 1), plane.Of(5, 1), plane.Of(9, 1), false},
		{"on a falling line, apart", plane.Of(0, 9), plane.Of(2, 7), plane.Of(3, 6), plane.Of(8, 1), false},
		{"a point in the middle", plane.Of(0, 0), plane.Of(4, 2), plane.Of(2, 1), plane.Of(2, 1), true},
		{"a point at an end", plane.Of(0, 0), plane.Of(4, 2), plane.Of(4, 2), plane.Of(4, 2), true},
		{"a point on the line", plane.Of(0, 0), plane.Of(4, 2), plane.Of(6, 3), plane.Of(6, 3), false},
		{"a point on the upright line", plane.Of(1, 0), plane.Of(1, 4), plane.Of(1, 5), plane.Of(1, 5), false},
		{"a point next to it", plane.Of(0, 0), plane.Of(4, 2), plane.Of(2, 2), plane.Of(2, 2), false},
		{"a point twice", plane.Of(3, 5), plane.Of(3, 5), plane.Of(3, 5), plane.Of(3, 5), true},
		{"two points", plane.Of(3, 5), plane.Of(3, 5), plane.Of(3, 6), plane.Of(3, 6), false},
		{"two points at one height", plane.Of(3, 5), plane.Of(3, 5), plane.Of(4, 5), plane.Of(4, 5), false},
		{"they cross between whole numbers", plane.Of(0, 0), plane.Of(1, 1), plane.Of(0, 1), plane.Of(1, 0), true},
		{"halves that cross", halves(0, 0), halves(1, 1), halves(0, 1), halves(1, 0), true},
		{"an end at a third", plane.Of(0, 0), plane.Of(3, 1), api.Vec{X: rat.Of(1, 1), Y: rat.Of(1, 3)}, plane.Of(0, 9), true},
		{"an end nearly at a third", plane.Of(0, 0), plane.Of(3, 1), api.Vec{X: rat.Of(1, 1), Y: rat.Of(333333334, 1000000000)}, plane.Of(0, 9), false},
		{"all ints", plane.Of(math.MinInt, math.MinInt), plane.Of(math.MaxInt, math.MaxInt), plane.Of(math.MinInt, math.MaxInt), plane.Of(math.MaxInt, math.MinInt), true},
		{"all ints, parallel", plane.Of(math.MinInt, math.MinInt), plane.Of(math.MaxInt, math.MaxInt), plane.Of(math.MinInt, math.MinInt+1), plane.Of(math.MaxInt-1, math.MaxInt), false},
	} {
		if polygon.Meets(c.a, c.b, c.c, c.d) != c.want {
			t.Errorf("P6.5: Meets is %v: %s", !c.want, c.name)
		}
		checkMeets(t, c.want, c.a, c.b, c.c, c.d)
	}
}

// All segments of a small grid.
func TestMeetsOnGrids(t *testing.T) {
	var l []spot
	for x := range 3 {
		for y := range 4 {
			l = append(l, spot{x, y})
		}
	}
	for _, a := range l {
		for _, b := range l {
			for _, c := range l {
				for _, d := range l {
					if got := polygon.Meets(corner(a), corner(b), corner(c), corner(d)); got != meets(a, b, c, d) {
						t.Fatalf("P6.5: Meets(%v, %v, %v, %v) is %v", a, b, c, d, got)
					}
				}
			}
		}
	}
}

// Numbers of many digits: whether segments meet does not change in any frame, also in one that exchanges left and right.
func TestMeetsInFrames(t *testing.T) {
	r := rand.New(rand.NewPCG(6, 13))
	for k := range 1200 {
		digits := 1 + k%25
		if k < 10 {
			digits = 200
		}
		f := randomFrame(r, digits)
		if k%2 == 0 {
			f.right, f.up = f.up, f.right
		}
		l := randomSpots(r, 4, 3+k%5)
		if k%3 == 0 {
			// On one line.
			for i := range l {
				l[i] = spot{l[i].x, 2*l[i].x + 1}
			}
		}
		checkMeets(t, meets(l[0], l[1], l[2], l[3]), vector(f.put(l[0])), vector(f.put(l[1])), vector(f.put(l[2])), vector(f.put(l[3])))
	}
}

// An end on the other segment, a little before it, and a little behind it.
func TestMeetsByLittle(t *testing.T) {
	r := rand.New(rand.NewPCG(6, 14))
	less := big.NewRat(-1, 1)
	for k := range 240 {
		digits := 1 + k%40
		f := randomFrame(r, digits)
		a, b := f.at, add(f.at, f.right)
		part := new(big.Rat).SetFrac(big.NewInt(int64(1+r.IntN(8))), big.NewInt(9))
		p := add(a, scale(f.right, part))
		up, along := scale(f.up, small(3*digits)), scale(f.right, small(3*digits))
		far := add(p, f.up)
		checkMeets(t, true, vector(a), vector(b), vector(p), vector(far))
		checkMeets(t, false, vector(a), vector(b), vector(add(p, up)), vector(far))
		checkMeets(t, true, vector(a), vector(b), vector(add(p, scale(up, less))), vector(far))
		// The same at an end, where the other segment begins, and along the line.
		checkMeets(t, true, vector(a), vector(b), vector(b), vector(far))
		checkMeets(t, false, vector(a), vector(b), vector(add(b, along)), vector(far))
		checkMeets(t, true, vector(a), vector(b), vector(add(b, scale(along, less))), vector(far))
		long := add(b, f.right)
		checkMeets(t, true, vector(a), vector(b), vector(b), vector(long))
		checkMeets(t, false, vector(a), vector(b), vector(add(b, along)), vector(long))
		checkMeets(t, true, vector(a), vector(b), vector(add(b, scale(along, less))), vector(long))
		checkMeets(t, true, vector(a), vector(b), vector(p), vector(p))
		checkMeets(t, false, vector(a), vector(b), vector(add(p, up)), vector(add(p, up)))
		checkMeets(t, false, vector(p), vector(p), vector(add(p, along)), vector(add(p, along)))
	}
}
