package cells_test

import (
	"fmt"
	"math/big"
	"math/rand/v2"
	"slices"
	"testing"

	"sherd/api"
	"sherd/cells"
	"sherd/plane"
	"sherd/polygon"
	"sherd/rat"
)

// spot is a point with small coordinates, and a frame leads spots to vectors: (x, y) to x times right, y times up and at, added up.
type spot struct{ x, y int }
type vec struct{ x, y *big.Rat }
type frame struct{ right, up, at vec }

// The next functions follow the wording of the chapters 6 and 7, for spots.

// twice returns twice the area of the triangle from a to b to c; it is negative, if that is clockwise.
func twice(a, b, c spot) int { return (b.x-a.x)*(c.y-a.y) - (b.y-a.y)*(c.x-a.x) }

// within reports whether p is in the triangle t or on its boundary: then, and only then, it divides t into triangles that are not larger together.
func within(t [3]spot, p spot) bool {
	sum := 0
	for k := range 3 {
		sum += size(twice(t[k], t[(k+1)%3], p))
	}
	return sum == size(twice(t[0], t[1], t[2]))
}

func size(a int) int { return max(a, -a) }

// meets reports whether the segments from a to b and from c to d have a point in common; they are no points.
func meets(a, b, c, d spot) bool {
	first, second := sign(twice(a, b, c))*sign(twice(a, b, d)), sign(twice(c, d, a))*sign(twice(c, d, b))
	boxed := max(min(a.x, b.x), min(c.x, d.x)) <= min(max(a.x, b.x), max(c.x, d.x)) && max(min(a.y, b.y), min(c.y, d.y)) <= min(max(a.y, b.y), max(c.y, d.y))
	return first <= 0 && second <= 0 && boxed
}

func sign(a int) int {
	switch {
	case a > 0:
		return 1
	case a < 0:
		return -1
	}
	return 0
}

func valid(l []spot) bool {
	n, sum := len(l), 0
	if n < 3 || n > 12 {
		return false
	}
	for k, a := range l {
		b := l[(k+1)%n]
		sum += a.x*b.y - a.y*b.x
		if twice(a, b, l[(k+2)%n]) == 0 {
			return false
		}
		for m := k + 2; m < min(n, n+k-1); m++ {
			if meets(a, b, l[m], l[(m+1)%n]) {
				return false
			}
		}
	}
	return sum > 0
}

// beside returns the triple of the place at in a list of indices.
func beside(left []int, at int) [3]int {
	switch at {
	case 0:
		return [3]int{left[len(left)-1], left[0], left[1]}
	case len(left) - 1:
		return [3]int{left[at-1], left[at], left[0]}
	}
	return [3]int(left[at-1 : at+2])
}

func three(l []spot, t [3]int) [3]spot { return [3]spot{l[t[0]], l[t[1]], l[t[2]]} }

func turn(l []spot, t [3]int) int { return twice(l[t[0]], l[t[1]], l[t[2]]) }

func ear(l []spot, left []int, at int) bool {
	t := beside(left, at)
	for _, k := range left {
		if k != t[0] && k != t[1] && k != t[2] && within(three(l, t), l[k]) {
			return false
		}
	}
	return turn(l, t) > 0
}

// without returns the indices that remain after the ear at a place was cut.
func without(l []spot, left []int, at int) []int {
	left = slices.Delete(slices.Clone(left), at, at+1)
	for k := 0; k < len(left) && len(left) > 3; k++ {
		if turn(l, beside(left, k)) == 0 {
			left, k = slices.Delete(left, k, k+1), -1
		}
	}
	return left
}

func all(l []spot) []int {
	var left []int
	for k := range l {
		left = append(left, k)
	}
	return left
}

// cut returns the triples of a valid polygon.
func cut(l []spot) [][3]int {
	var t [][3]int
	left := all(l)
	for len(left) > 3 {
		at := 0
		for !ear(l, left, at) {
			at++
		}
		t = append(t, beside(left, at))
		left = without(l, left, at)
	}
	return append(t, [3]int{left[0], left[1], left[2]})
}

// ways yields all lists of triples that Check accepts.
func ways(l []spot, left []int, before [][3]int, yield func(t [][3]int)) {
	if len(left) == 3 {
		for k := range 3 {
			yield(append(slices.Clone(before), [3]int{left[k], left[(k+1)%3], left[(k+2)%3]}))
		}
		return
	}
	for at := range left {
		if ear(l, left, at) {
			ways(l, without(l, left, at), append(slices.Clone(before), beside(left, at)), yield)
		}
	}
}

// Between the model and the program.

func number(v *big.Rat) api.Rat {
	a, e := rat.Parse(v.RatString())
	if e != api.OK {
		panic("the text of a number is too long")
	}
	return a
}

func vectors(l []vec) []api.Vec {
	var made []api.Vec
	for _, v := range l {
		made = append(made, api.Vec{X: number(v.x), Y: number(v.y)})
	}
	return made
}

func corners(l []spot) []api.Vec {
	var made []api.Vec
	for _, p := range l {
		made = append(made, plane.Of(p.x, p.y))
	}
	return made
}

func times(a, b *big.Rat) *big.Rat { return new(big.Rat).Mul(a, b) }

func whole(n int) *big.Rat { return big.NewRat(int64(n), 1) }

func (f frame) put(p spot) vec {
	x, y := whole(p.x), whole(p.y)
	sum := func(a, b, c *big.Rat) *big.Rat {
		return new(big.Rat).Add(new(big.Rat).Add(times(a, x), times(b, y)), c)
	}
	return vec{sum(f.right.x, f.up.x, f.at.x), sum(f.right.y, f.up.y, f.at.y)}
}

func (f frame) list(l []spot) []api.Vec {
	var moved []vec
	for _, p := range l {
		moved = append(moved, f.put(p))
	}
	return vectors(moved)
}

// sameVec reports whether the numbers of two vectors have the same signs and digits.
func sameVec(a, b api.Vec) bool {
	same := func(a, b api.Int) bool { return a.Neg == b.Neg && slices.Equal(a.D, b.D) }
	return same(a.X.P, b.X.P) && same(a.X.Q, b.X.Q) && same(a.Y.P, b.Y.P) && same(a.Y.Q, b.Y.Q)
}

// show is for messages: a list of corners, shortened in the middle.
func show(l []api.Vec) string {
	s := ""
	for _, v := range l {
		s += " (" + rat.Text(v.X) + ", " + rat.Text(v.Y) + ")"
	}
	if len(s) > 500 {
		s = fmt.Sprintf("%s...%s (%d bytes)", s[:250], s[len(s)-200:], len(s))
	}
	return "[" + s + " ]"
}

// Polygons and numbers.

// random returns a number whose numerator and denominator have n decimal digits at most.
func random(r *rand.Rand, n int) *big.Rat {
	digits := func(n int) *big.Int {
		p := new(big.Int)
		for range n {
			p.Add(p.Mul(p, big.NewInt(10)), big.NewInt(int64(r.IntN(10))))
		}
		return p
	}
	q := digits(r.IntN(n))
	v := new(big.Rat).SetFrac(digits(1+r.IntN(n)), q.Add(q, big.NewInt(1)))
	if r.IntN(2) == 0 {
		v.Neg(v)
	}
	return v
}

func randomVec(r *rand.Rand, n int) vec { return vec{random(r, n), random(r, n)} }

// randomFrame returns a frame that keeps what is to the left, whose numbers have n digits at most.
func randomFrame(r *rand.Rand, n int) frame {
	for {
		f := frame{randomVec(r, n), randomVec(r, n), randomVec(r, n)}
		switch times(f.right.x, f.up.y).Cmp(times(f.right.y, f.up.x)) {
		case 1:
			return f
		case -1:
			return frame{f.up, f.right, f.at}
		}
	}
}

func randomSpots(r *rand.Rand, n, size int) []spot {
	var l []spot
	for range n {
		l = append(l, spot{r.IntN(size), r.IntN(size)})
	}
	return l
}

// randomPolygon returns a valid polygon with at most n corners, in most cases n: a triangle to which corners were added one by one.
func randomPolygon(r *rand.Rand, n, size int) []spot {
	l := randomSpots(r, 3, size)
	for !valid(l) {
		l = randomSpots(r, 3, size)
	}
	for range 60 * n {
		more := slices.Insert(slices.Clone(l), r.IntN(len(l)), spot{r.IntN(size), r.IntN(size)})
		if len(l) < n && valid(more) {
			l = more
		}
	}
	return begunAt(l, r.IntN(len(l)))
}

// begunAt returns the list that begins at its corner k.
func begunAt[T any](l []T, k int) []T { return append(slices.Clone(l[k:]), l[:k]...) }

func reversed[T any](l []T) []T {
	l = slices.Clone(l)
	slices.Reverse(l)
	return l
}

// parabola returns n corners that turn to the left all around.
func parabola(n int) []spot {
	var l []spot
	for k := range n {
		l = append(l, spot{k, k * k})
	}
	return l
}

// shapes returns convex polygons, some with a hollow, some with several, and some in which corners become flat.
func shapes() map[string][]spot {
	return map[string][]spot{
		"triangle":  {{0, 0}, {3, 1}, {1, 4}},
		"square":    {{0, 0}, {4, 0}, {4, 4}, {0, 4}},
		"twelve":    parabola(12),
		"notch":     {{0, 0}, {4, 0}, {4, 4}, {2, 1}, {0, 4}},
		"dart":      {{0, 0}, {6, 2}, {2, 2}, {2, 6}},
		"angle":     {{0, 0}, {4, 0}, {4, 2}, {2, 2}, {2, 4}, {0, 4}},
		"comb":      {{0, 0}, {8, 0}, {8, 6}, {6, 6}, {6, 2}, {5, 2}, {5, 6}, {3, 6}, {3, 2}, {2, 2}, {2, 6}, {0, 6}},
		"star":      {{10, 0}, {4, 2}, {6, 8}, {2, 5}, {-5, 9}, {-4, 2}, {-10, 1}, {-4, -3}, {-5, -9}, {1, -4}, {6, -8}, {5, -2}},
		"spiral":    {{0, 0}, {8, 0}, {8, 8}, {2, 8}, {2, 4}, {4, 4}, {4, 6}, {6, 6}, {6, 2}, {1, 2}, {1, 9}, {0, 9}},
		"tooth":     {{0, 0}, {2, 0}, {3, -1}, {4, 0}, {6, 0}, {6, 4}, {0, 4}},
		"teeth":     {{2, -1}, {3, 0}, {5, 0}, {6, -1}, {7, 0}, {9, 0}, {10, -1}, {11, 0}, {12, 0}, {6, 7}, {0, 0}, {1, 0}},
		"houses":    {{0, 0}, {6, 0}, {6, 2}, {7, 3}, {6, 4}, {6, 6}, {0, 6}, {0, 4}, {-1, 3}, {0, 2}},
		"cross":     {{1, 0}, {2, 0}, {2, 1}, {3, 1}, {3, 2}, {2, 2}, {2, 3}, {1, 3}, {1, 2}, {0, 2}, {0, 1}, {1, 1}},
		"butterfly": {{0, 0}, {3, 2}, {6, 0}, {6, 6}, {3, 4}, {0, 6}},
		"touched":   {{0, 0}, {4, 0}, {4, 4}, {2, 2}, {0, 4}},
	}
}

func TestModel(t *testing.T) {
	for name, l := range shapes() {
		if !valid(l) || valid(reversed(l)) || !polygon.Valid(corners(l)) {
			t.Error("not valid: the", name)
		}
		if len(l) > 8 {
			continue
		}
		found := false
		ways(l, all(l), nil, func(w [][3]int) { found = found || slices.Equal(w, cut(l)) })
		if !found {
			t.Error("what is cut in the model is in none of its ways: the", name)
		}
	}
	r := rand.New(rand.NewPCG(7, 1))
	counts, flat := map[int]int{}, 0
	for range 200 {
		l := randomPolygon(r, 12, 8)
		counts[len(l)]++
		flat += len(l) - 2 - len(cut(l))
	}
	if counts[12] < 100 || flat < 30 {
		t.Error("too few polygons have 12 corners, or corners that become flat:", counts, flat)
	}
	if _, e := cells.Cut(nil); e != api.ErrArg {
		t.Error("P7.1: no corners are cut")
	}
}
