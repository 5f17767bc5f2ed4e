package apart_test

import (
	"fmt"
	"math/big"
	"math/rand/v2"
	"slices"
	"testing"

	"sherd/api"
	"sherd/plane"
	"sherd/polygon"
	"sherd/rat"
)

// spot is a point with small coordinates, and a frame leads spots to vectors: (x, y) to x times right, y times up and at, added up.
type spot struct{ x, y int }
type vec struct{ x, y *big.Rat }
type frame struct{ right, up, at vec }

func times(a, b *big.Rat) *big.Rat { return new(big.Rat).Mul(a, b) }

func plus(a, b *big.Rat) *big.Rat { return new(big.Rat).Add(a, b) }

func less(a, b *big.Rat) *big.Rat { return new(big.Rat).Sub(a, b) }

func quotient(a, b *big.Rat) *big.Rat { return new(big.Rat).Quo(a, b) }

func minus(a *big.Rat) *big.Rat { return new(big.Rat).Neg(a) }

func size(a *big.Rat) *big.Rat { return new(big.Rat).Abs(a) }

func whole(n int) *big.Rat { return big.NewRat(int64(n), 1) }

func greater(a, b *big.Rat) *big.Rat {
	if a.Cmp(b) < 0 {
		return b
	}
	return a
}

func add(v, w vec) vec { return vec{plus(v.x, w.x), plus(v.y, w.y)} }

func sub(v, w vec) vec { return vec{less(v.x, w.x), less(v.y, w.y)} }

func scale(v vec, k *big.Rat) vec { return vec{times(v.x, k), times(v.y, k)} }

func dot(v, w vec) *big.Rat { return plus(times(v.x, w.x), times(v.y, w.y)) }

// bend is positive, if the way from a to b to c turns to the left, and negative, if it turns to the right.
func bend(a, b, c vec) int {
	v, w := sub(b, a), sub(c, b)
	return times(v.x, w.y).Cmp(times(v.y, w.x))
}

// The next functions follow the wording of the chapter.

func gap(n vec, a, b []vec) *big.Rat {
	least, greatest := dot(n, b[0]), dot(n, a[0])
	for _, q := range b {
		if v := dot(n, q); v.Cmp(least) < 0 {
			least = v
		}
	}
	for _, p := range a {
		greatest = greater(greatest, dot(n, p))
	}
	return less(least, greatest)
}

// length returns the sum of the absolute values of both coordinates.
func length(n vec) *big.Rat { return plus(size(n.x), size(n.y)) }

func dirs(a, b []vec) []vec {
	var l []vec
	for k, p := range a {
		side := sub(a[(k+1)%len(a)], p)
		l = append(l, vec{side.y, minus(side.x)})
	}
	for k, p := range b {
		side := sub(b[(k+1)%len(b)], p)
		l = append(l, vec{minus(side.y), side.x})
	}
	return append(l, spot{1, 0}.vec(), spot{0, 1}.vec(), spot{-1, 0}.vec(), spot{0, -1}.vec())
}

// margins returns for each of the directions of two shapes the greatest margin by which it separates them.
func margins(a, b []vec) []*big.Rat {
	var l []*big.Rat
	for _, n := range dirs(a, b) {
		l = append(l, quotient(gap(n, a, b), length(n)))
	}
	return l
}

// greatest returns the greatest margin by which two shapes are apart.
func greatest(a, b []vec) *big.Rat { return slices.MaxFunc(margins(a, b), (*big.Rat).Cmp) }

// find returns the place of the first direction that separates two shapes by e among all of them, or -1.
func find(a, b []vec, e *big.Rat) int {
	return slices.IndexFunc(margins(a, b), func(m *big.Rat) bool { return m.Cmp(e) >= 0 })
}

// The next functions measure shapes in another way, without directions that separate them: by the polygon of all differences of their points.

// round returns the least convex polygon with some points.
func round(points []vec) []vec {
	points = slices.Clone(points)
	slices.SortFunc(points, func(v, w vec) int {
		if c := v.x.Cmp(w.x); c != 0 {
			return c
		}
		return v.y.Cmp(w.y)
	})
	half := func() []vec {
		var l []vec
		for _, p := range points {
			for len(l) > 1 && bend(l[len(l)-2], l[len(l)-1], p) <= 0 {
				l = l[:len(l)-1]
			}
			l = append(l, p)
		}
		return l[:len(l)-1]
	}
	lower := half()
	slices.Reverse(points)
	return append(lower, half()...)
}

// near returns the least number such that (0, 0) and a point between p and q differ by it in one coordinate and by no more in the other one.
func near(p, q vec) *big.Rat {
	way := sub(q, p)
	parts := []*big.Rat{whole(0), whole(1)}
	// It is found at an end, or where both coordinates are as great, or where one of them is 0.
	for _, f := range []func(v vec) *big.Rat{
		func(v vec) *big.Rat { return v.x },
		func(v vec) *big.Rat { return v.y },
		func(v vec) *big.Rat { return plus(v.x, v.y) },
		func(v vec) *big.Rat { return less(v.x, v.y) },
	} {
		if f(way).Sign() != 0 {
			parts = append(parts, quotient(minus(f(p)), f(way)))
		}
	}
	var least *big.Rat
	for _, part := range parts {
		if part.Sign() < 0 || part.Cmp(whole(1)) > 0 {
			continue
		}
		v := add(p, scale(way, part))
		if far := greater(size(v.x), size(v.y)); least == nil || far.Cmp(least) < 0 {
			least = far
		}
	}
	return least
}

// distance returns by how much two shapes differ at least in the coordinate in which they differ more; if they have points in common, it is negative or 0, and by as much one of them has to be moved in some coordinate.
func distance(a, b []vec) *big.Rat {
	var differences []vec
	for _, p := range a {
		for _, q := range b {
			differences = append(differences, sub(q, p))
		}
	}
	l := round(differences)
	inside := true
	var least *big.Rat
	for k, p := range l {
		q := l[(k+1)%len(l)]
		inside = inside && bend(p, q, vec{new(big.Rat), new(big.Rat)}) >= 0
		if far := near(p, q); least == nil || far.Cmp(least) < 0 {
			least = far
		}
	}
	if inside {
		return minus(least)
	}
	return least
}

// Between the model and the program.

func number(v *big.Rat) api.Rat {
	a, e := rat.Parse(v.RatString())
	if e != api.OK {
		panic("the text of a number is too long")
	}
	return a
}

func vector(v vec) api.Vec { return api.Vec{X: number(v.x), Y: number(v.y)} }

func vectors(l []vec) []api.Vec {
	var made []api.Vec
	for _, v := range l {
		made = append(made, vector(v))
	}
	return made
}

func (p spot) vec() vec { return vec{whole(p.x), whole(p.y)} }

func (f frame) put(p spot) vec {
	return add(add(scale(f.right, whole(p.x)), scale(f.up, whole(p.y))), f.at)
}

func (f frame) list(l []spot) []vec {
	var moved []vec
	for _, p := range l {
		moved = append(moved, f.put(p))
	}
	return moved
}

func plain() frame { return frame{spot{1, 0}.vec(), spot{0, 1}.vec(), spot{0, 0}.vec()} }

func corners(l []spot) []api.Vec {
	var made []api.Vec
	for _, p := range l {
		made = append(made, plane.Of(p.x, p.y))
	}
	return made
}

// identical reports whether two numbers have the same signs and digits, sameVec and sameList whether those of two vectors and two lists are the same.
func identical(a, b api.Rat) bool {
	return a.P.Neg == b.P.Neg && a.Q.Neg == b.Q.Neg && slices.Equal(a.P.D, b.P.D) && slices.Equal(a.Q.D, b.Q.D)
}

func sameVec(a, b api.Vec) bool { return identical(a.X, b.X) && identical(a.Y, b.Y) }

func sameList(l, m []api.Vec) bool { return slices.EqualFunc(l, m, sameVec) }

// show is for messages: numbers, vectors and lists of them, shortened in the middle.
func show(x any) string {
	s := ""
	switch x := x.(type) {
	case api.Rat:
		s = rat.Text(x)
	case api.Vec:
		return "(" + show(x.X) + ", " + show(x.Y) + ")"
	case []api.Vec:
		for _, a := range x {
			s += " " + show(a)
		}
		return "[" + s + " ]"
	case *big.Rat:
		s = x.RatString()
	case []vec:
		return show(vectors(x))
	default:
		s = fmt.Sprint(x)
	}
	if len(s) > 160 {
		s = fmt.Sprintf("%s...%s (%d bytes)", s[:70], s[len(s)-70:], len(s))
	}
	return s
}

// Shapes, numbers and frames.

// small returns 1 / 10^n.
func small(n int) *big.Rat {
	return new(big.Rat).SetFrac(whole(1).Num(), new(big.Int).Exp(big.NewInt(10), big.NewInt(int64(n)), nil))
}

// random returns a number whose numerator and denominator have n decimal digits at most.
func random(r *rand.Rand, n int) *big.Rat {
	digits := func(n int) *big.Int {
		p := new(big.Int)
		for range n {
			p.Add(p.Mul(p, big.NewInt(10)), big.NewInt(int64(r.IntN(10))))
		}
		return p
	}
	q := digits(r.IntN(n))
	v := new(big.Rat).SetFrac(digits(1+r.IntN(n)), q.Add(q, big.NewInt(1)))
	if r.IntN(2) == 0 {
		v.Neg(v)
	}
	return v
}

func randomVec(r *rand.Rand, n int) vec { return vec{random(r, n), random(r, n)} }

// randomFrame returns a frame that keeps what is to the left, whose numbers have n digits at most.
func randomFrame(r *rand.Rand, n int) frame {
	for {
		f := frame{randomVec(r, n), randomVec(r, n), randomVec(r, n)}
		switch times(f.right.x, f.up.y).Cmp(times(f.right.y, f.up.x)) {
		case 1:
			return f
		case -1:
			return frame{f.up, f.right, f.at}
		}
	}
}

func randomSpots(r *rand.Rand, n, size int) []spot {
	var l []spot
	for range n {
		l = append(l, spot{r.IntN(size), r.IntN(size)})
	}
	return l
}

// begunAt returns the list that begins at its corner k.
func begunAt[T any](l []T, k int) []T { return append(slices.Clone(l[k:]), l[:k]...) }

func moved(l []spot, x, y int) []spot {
	var m []spot
	for _, p := range l {
		m = append(m, spot{p.x + x, p.y + y})
	}
	return m
}

// part returns a list of some of the corners, at least three, that begins at any of them.
func part(r *rand.Rand, l []spot) []spot {
	var m []spot
	for len(m) < 3 {
		m = nil
		for _, p := range l {
			if r.IntN(3) > 0 {
				m = append(m, p)
			}
		}
	}
	return begunAt(m, r.IntN(len(m)))
}

// some returns one of several shapes: part of one of twelve corners, or one with corners on a small grid.
func some(r *rand.Rand) []spot {
	switch r.IntN(5) {
	case 0:
		return part(r, shapes()["twelve"])
	case 1:
		return part(r, shapes()["parabola"])
	}
	l := onGrid[r.IntN(len(onGrid))]
	return moved(begunAt(l, r.IntN(len(l))), r.IntN(6)-3, r.IntN(6)-3)
}

// onGrid is the shapes with corners on a grid of 3 times 3 points.
var onGrid = gridShapes(3)

// gridShapes returns all shapes with corners on a grid of n times n points, each of which begins at its first corner in the order of the grid.
func gridShapes(n int) [][]spot {
	var all [][]spot
	for set := range 1 << (n * n) {
		var points []vec
		for k := range n * n {
			if set>>k&1 == 1 {
				points = append(points, spot{k / n, k % n}.vec())
			}
		}
		if len(points) < 3 {
			continue
		}
		// The points are the corners of a shape, if none of them is left out around them.
		if l := round(points); len(l) == len(points) {
			var m []spot
			for _, p := range l {
				m = append(m, spot{int(p.x.Num().Int64()), int(p.y.Num().Int64())})
			}
			all = append(all, m)
		}
	}
	return all
}

func shapes() map[string][]spot {
	twelve, parabola, at := []spot(nil), []spot(nil), spot{-1, -4}
	for _, way := range []spot{{2, 0}, {2, 1}, {1, 1}, {1, 2}, {0, 2}, {-1, 1}, {-2, 1}, {-2, 0}, {-2, -1}, {-1, -3}, {0, -3}, {2, -1}} {
		twelve = append(twelve, at)
		at = spot{at.x + way.x, at.y + way.y}
	}
	for k := range 12 {
		parabola = append(parabola, spot{k - 6, (k - 6) * (k - 6)})
	}
	return map[string][]spot{
		"triangle": {{0, 0}, {3, 1}, {1, 4}},
		"square":   {{0, 0}, {2, 0}, {2, 2}, {0, 2}},
		"diamond":  {{0, -1}, {1, 0}, {0, 1}, {-1, 0}},
		"needle":   {{0, 0}, {9, 8}, {10, 9}},
		"house":    {{0, 0}, {4, 0}, {4, 2}, {2, 3}, {0, 2}},
		"twelve":   twelve,
		"parabola": parabola,
	}
}

func TestModel(t *testing.T) {
	for name, l := range shapes() {
		if !polygon.Convex(corners(l)) {
			t.Error("no shape: the", name)
		}
	}
	counts := map[int]int{}
	for _, l := range onGrid {
		if !polygon.Convex(corners(l)) {
			t.Error("no shape:", l)
		}
		counts[len(l)]++
	}
	// Of the 84 sets of three points, 8 are on a line.
	if counts[3] != 76 || counts[4] == 0 || counts[6] == 0 {
		t.Error("the shapes on a grid have these numbers of corners:", counts)
	}
	r := rand.New(rand.NewPCG(8, 1))
	signs := map[int]int{}
	for k := range 400 {
		f := randomFrame(r, 1+k%9)
		a, b := f.list(some(r)), f.list(some(r))
		if !polygon.Convex(vectors(a)) || !polygon.Convex(vectors(b)) {
			t.Error("no shapes:", show(a), show(b))
		}
		if distance(a, b).Cmp(greatest(a, b)) != 0 || distance(b, a).Cmp(distance(a, b)) != 0 {
			t.Error("the distance of", show(a), "and", show(b), "is", show(distance(a, b)), "and", show(greatest(a, b)))
		}
		signs[distance(a, b).Sign()]++
	}
	if signs[1] < 60 || signs[0] < 3 || signs[-1] < 60 {
		t.Error("too few shapes touch, or are apart, or overlap:", signs)
	}
}
