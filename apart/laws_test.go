package apart_test

import (
	"math/big"
	"math/rand/v2"
	"testing"

	"sherd/apart"
	"sherd/api"
	"sherd/plane"
	"sherd/polygon"
	"sherd/rat"
)

// apartBy reports whether two shapes are apart by e, in one order of them.
func apartBy(a, b []api.Vec, e api.Rat) bool {
	_, found := apart.Find(a, b, e)
	return found
}

// someShapes returns two shapes of the model, in frames with few digits.
func someShapes(r *rand.Rand, k int) ([]vec, []vec) {
	f := plain()
	if k%3 == 0 {
		f = randomFrame(r, 1+k%9)
	}
	return f.list(some(r)), f.list(some(r))
}

// P8.7: shapes are apart by e exactly if their distance, measured without directions, is at least e.
func TestMargins(t *testing.T) {
	r := rand.New(rand.NewPCG(8, 11))
	for k := range 150 {
		a, b := someShapes(r, k)
		exact, first, second := distance(a, b), vectors(a), vectors(b)
		for _, c := range []struct {
			e    *big.Rat
			want bool
		}{{exact, true}, {plus(exact, small(k)), false}, {less(exact, small(k)), true}} {
			// Of shapes that meet, the distance tells nothing about a positive margin: they have a point in common.
			if c.e.Sign() > 0 && apartBy(first, second, number(c.e)) != (c.want && exact.Sign() > 0) {
				t.Fatalf("P8.7: the shapes %s and %s, whose distance is %s, are not told apart by %s", show(a), show(b), show(exact), show(c.e))
			}
		}
		if apartBy(first, second, api.Rat{}) != (exact.Sign() >= 0) {
			t.Fatalf("P8.7: the shapes %s and %s have inner points in common, or they are not apart by 0", show(a), show(b))
		}
	}
}

// innerPoint reports whether some point of a fine grid is inside of both shapes.
func innerPoint(a, b []api.Vec) bool {
	lo, hi := polygon.Box(a)
	step := plane.Scale(plane.Sub(hi, lo), rat.Of(1, 31))
	for x := range 32 {
		for y := range 32 {
			p := plane.Add(lo, api.Vec{X: rat.Mul(step.X, rat.Of(x, 1)), Y: rat.Mul(step.Y, rat.Of(y, 1))})
			if polygon.Has(a, p) > 0 && polygon.Has(b, p) > 0 {
				return true
			}
		}
	}
	return false
}

// P8.7 by points: what is apart by 0 has no inner point in common, and what overlaps by much has one on a fine grid.
func TestInnerPoints(t *testing.T) {
	r := rand.New(rand.NewPCG(8, 12))
	counts := map[bool]int{}
	for range 100 {
		a, b := corners(some(r)), corners(some(r))
		depth := apart.Depth(a, b)
		if rat.Sign(depth) > 0 && rat.Compare(depth, rat.Of(1, 1)) < 0 {
			continue
		}
		found := innerPoint(a, b)
		counts[found]++
		if found == apartBy(a, b, api.Rat{}) {
			t.Fatalf("P8.7: an inner point in common of %s and %s, with the depth %s: %v", show(a), show(b), show(depth), found)
		}
	}
	if counts[true] < 10 || counts[false] < 10 {
		t.Error("too few shapes overlap, or are apart:", counts)
	}
}

// quarters turns a list by a number of quarters of a full turn, and moves it.
func quarters(l []api.Vec, n int, by api.Vec) []api.Vec {
	var turned []api.Vec
	for _, p := range l {
		for range n {
			p = api.Vec{X: rat.Neg(p.Y), Y: p.X}
		}
		turned = append(turned, plane.Add(p, by))
	}
	return turned
}

func TestMovedShapes(t *testing.T) {
	r := rand.New(rand.NewPCG(8, 13))
	for k := range 100 {
		one, other := someShapes(r, k)
		a, b, by := vectors(one), vectors(other), vector(randomVec(r, 1+k%20))
		exact := rat.Neg(apart.Depth(a, b))
		for n := range 4 {
			first, second := quarters(a, n, by), quarters(b, n, by)
			if got := apart.Depth(first, second); !identical(got, rat.Neg(exact)) {
				t.Fatalf("P8.8: the depth of %s and %s changes by %d quarters of a turn to %s", show(a), show(b), n, show(got))
			}
			if apart.Meet(first, second) != apart.Meet(a, b) {
				t.Fatalf("P8.8: whether %s and %s meet changes by %d quarters of a turn", show(a), show(b), n)
			}
			for _, e := range []api.Rat{exact, rat.Add(exact, number(small(k))), rat.Sub(exact, number(random(r, 3)))} {
				want, found := apart.Find(a, b, e)
				got, still := apart.Find(first, second, e)
				if still != found || n == 0 && !sameVec(got, want) {
					t.Fatalf("P8.8: Find of %s and %s by %s changes by %d quarters of a turn", show(a), show(b), show(e), n)
				}
				if apartBy(second, first, e) != found {
					t.Fatalf("P8.8: Find of %s and %s by %s depends on their order", show(first), show(second), show(e))
				}
			}
		}
	}
}

// P8.9 for one pair of shapes: what they have to be moved by.
func checkMoves(t *testing.T, r *rand.Rand, a, b []api.Vec) {
	t.Helper()
	depth := apart.Depth(a, b)
	for _, c := range []struct {
		e    api.Rat
		want bool
	}{{rat.Neg(depth), true}, {rat.Add(rat.Neg(depth), number(small(20))), false}, {rat.Sub(rat.Neg(depth), number(random(r, 3))), true}} {
		if rat.Compare(c.e, rat.Neg(depth)) <= 0 != c.want {
			continue
		}
		if apartBy(a, b, c.e) != c.want {
			t.Fatalf("P8.9: whether %s and %s, with the depth %s, are apart by %s is not %v", show(a), show(b), show(depth), show(c.e), c.want)
		}
	}
	if rat.Sign(depth) <= 0 {
		return
	}
	free := false
	for _, way := range []spot{{1, 1}, {1, -1}, {-1, 1}, {-1, -1}} {
		by := plane.Scale(plane.Of(way.x, way.y), depth)
		free = free || apartBy(a, quarters(b, 0, by), api.Rat{})
		by = plane.Scale(by, number(less(whole(1), small(30))))
		if apartBy(a, quarters(b, 0, by), api.Rat{}) {
			t.Fatalf("P8.9: less than the depth %s of %s and %s is enough", show(depth), show(a), show(b))
		}
	}
	if !free {
		t.Fatalf("P8.9: the depth %s of %s and %s is not enough", show(depth), show(a), show(b))
	}
	for range 5 {
		by := api.Vec{X: rat.Mul(depth, rat.Of(r.IntN(199)-99, 100)), Y: rat.Mul(depth, rat.Of(r.IntN(199)-99, 100))}
		if apartBy(a, quarters(b, 0, by), api.Rat{}) {
			t.Fatalf("P8.9: moving by %s, less than the depth %s of %s and %s, is enough", show(by), show(depth), show(a), show(b))
		}
	}
}

func TestMoves(t *testing.T) {
	r := rand.New(rand.NewPCG(8, 14))
	for k := range 120 {
		a, b := someShapes(r, k)
		checkMoves(t, r, vectors(a), vectors(b))
	}
	for _, l := range shapes() {
		for _, m := range shapes() {
			checkMoves(t, r, corners(l), corners(m))
		}
	}
}
