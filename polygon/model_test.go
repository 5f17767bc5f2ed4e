package polygon_test

import (
	"fmt"
	"math/big"
	"math/rand/v2"
	"slices"
	"testing"

	"sherd/api"
	"sherd/plane"
	"sherd/polygon"
	"sherd/rat"
)

// spot is a point with small coordinates, and a frame leads spots to vectors: (x, y) to x times right, y times up and at, added up.
type spot struct{ x, y int }
type vec struct{ x, y *big.Rat }
type frame struct{ right, up, at vec }

// The next functions follow the wording of the chapter, for spots.

func minus(a, b spot) spot { return spot{a.x - b.x, a.y - b.y} }

func cross(a, b spot) int { return a.x*b.y - a.y*b.x }

func bend(a, b, c spot) int { return cross(minus(b, a), minus(c, b)) }

func onSegment(a, b, p spot) bool {
	first, second := minus(p, a), minus(p, b)
	return cross(first, second) == 0 && first.x*second.x+first.y*second.y <= 0
}

func meets(a, b, c, d spot) bool {
	first, second, between := minus(b, a), minus(d, c), minus(c, a)
	whole := cross(first, second)
	if whole == 0 {
		return onSegment(a, b, c) || onSegment(a, b, d) || onSegment(c, d, a) || onSegment(c, d, b)
	}
	// The lines meet at these parts of the segments, as multiples of 1 / whole.
	s, t := cross(between, second), cross(between, first)
	if whole < 0 {
		whole, s, t = -whole, -s, -t
	}
	return s >= 0 && s <= whole && t >= 0 && t <= whole
}

// twice returns twice the area, by the heights of the sides.
func twice(l []spot) int {
	sum := 0
	for k, a := range l {
		b := l[(k+1)%len(l)]
		sum += (a.x - b.x) * (a.y + b.y)
	}
	return sum
}

func valid(l []spot) bool {
	n := len(l)
	if n < 3 || n > 12 || twice(l) <= 0 {
		return false
	}
	for k := range l {
		if bend(l[k], l[(k+1)%n], l[(k+2)%n]) == 0 {
			return false
		}
		for m := k + 2; m < min(n, n+k-1); m++ {
			if meets(l[k], l[k+1], l[m], l[(m+1)%n]) {
				return false
			}
		}
	}
	return true
}

func convex(l []spot) bool {
	for k := range l {
		if bend(l[k], l[(k+1)%len(l)], l[(k+2)%len(l)]) <= 0 {
			return false
		}
	}
	return valid(l)
}

// has returns where p is: on a side, or else inside if a segment to a far point, which leads through no corner, meets an odd number of sides.
func has(l []spot, p spot) int {
	far, where := spot{p.x + 100003, p.y + 10}, -1
	for k, a := range l {
		b := l[(k+1)%len(l)]
		if onSegment(a, b, p) {
			return 0
		}
		if meets(p, far, a, b) {
			where = -where
		}
	}
	return where
}

// The next functions follow the wording of the chapter, for vectors.

func times(a, b *big.Rat) *big.Rat { return new(big.Rat).Mul(a, b) }

func plus(l ...*big.Rat) *big.Rat {
	sum := new(big.Rat)
	for _, a := range l {
		sum.Add(sum, a)
	}
	return sum
}

func add(l ...vec) vec {
	sum := vec{new(big.Rat), new(big.Rat)}
	for _, v := range l {
		sum = vec{plus(sum.x, v.x), plus(sum.y, v.y)}
	}
	return sum
}

func scale(v vec, k *big.Rat) vec { return vec{times(v.x, k), times(v.y, k)} }

func determinant(v, w vec) *big.Rat {
	return new(big.Rat).Sub(times(v.x, w.y), times(v.y, w.x))
}

func area(l []vec) *big.Rat {
	sum := new(big.Rat)
	for k, v := range l {
		w := l[(k+1)%len(l)]
		sum.Add(sum, times(new(big.Rat).Sub(v.x, w.x), plus(v.y, w.y)))
	}
	return times(sum, big.NewRat(1, 2))
}

func center(l []vec) vec {
	sum := add()
	for k, v := range l {
		w := l[(k+1)%len(l)]
		sum = add(sum, scale(add(v, w), determinant(v, w)))
	}
	whole := area(l)
	if whole.Sign() == 0 {
		return add()
	}
	return scale(sum, new(big.Rat).Inv(times(whole, big.NewRat(6, 1))))
}

func box(l []vec) (vec, vec) {
	lo, hi := l[0], l[0]
	for _, v := range l {
		if v.x.Cmp(lo.x) < 0 {
			lo.x = v.x
		}
		if v.y.Cmp(lo.y) < 0 {
			lo.y = v.y
		}
		if v.x.Cmp(hi.x) > 0 {
			hi.x = v.x
		}
		if v.y.Cmp(hi.y) > 0 {
			hi.y = v.y
		}
	}
	return lo, hi
}

func (f frame) put(p spot) vec {
	return add(scale(f.right, big.NewRat(int64(p.x), 1)), scale(f.up, big.NewRat(int64(p.y), 1)), f.at)
}

func (f frame) list(l []spot) []vec {
	var moved []vec
	for _, p := range l {
		moved = append(moved, f.put(p))
	}
	return moved
}

// Between the model and the program.

func number(v *big.Rat) api.Rat {
	a, e := rat.Parse(v.RatString())
	if e != api.OK {
		panic("the text of a number is too long")
	}
	return a
}

func vector(v vec) api.Vec { return api.Vec{X: number(v.x), Y: number(v.y)} }

func vectors(l []vec) []api.Vec {
	var made []api.Vec
	for _, v := range l {
		made = append(made, vector(v))
	}
	return made
}

func corner(p spot) api.Vec { return plane.Of(p.x, p.y) }

func corners(l []spot) []api.Vec {
	var made []api.Vec
	for _, p := range l {
		made = append(made, corner(p))
	}
	return made
}

// halves returns the vector (x / 2, y / 2).
func halves(x, y int) api.Vec { return api.Vec{X: rat.Of(x, 2), Y: rat.Of(y, 2)} }

// identical reports whether two numbers have the same signs and digits, sameVec and sameList whether those of two vectors and two lists are the same.
func identical(a, b api.Rat) bool {
	return a.P.Neg == b.P.Neg && a.Q.Neg == b.Q.Neg && slices.Equal(a.P.D, b.P.D) && slices.Equal(a.Q.D, b.Q.D)
}

func sameVec(a, b api.Vec) bool { return identical(a.X, b.X) && identical(a.Y, b.Y) }

func sameList(l, m []api.Vec) bool { return slices.EqualFunc(l, m, sameVec) }

// show is for messages: numbers, vectors and lists of them, shortened in the middle.
func show(x any) string {
	s := ""
	switch x := x.(type) {
	case api.Rat:
		s = rat.Text(x)
	case api.Vec:
		return "(" + show(x.X) + ", " + show(x.Y) + ")"
	case []api.Vec:
		for _, a := range x {
			s += " " + show(a)
		}
		return "[" + s + " ]"
	case *big.Rat:
		return show(number(x))
	case vec:
		return show(vector(x))
	default:
		s = fmt.Sprint(x)
	}
	if len(s) > 160 {
		s = fmt.Sprintf("%s...%s (%d bytes)", s[:70], s[len(s)-70:], len(s))
	}
	return s
}

// checkNumber and checkVec report a result that is not valid or does not stand for want.
func checkNumber(t *testing.T, promise string, got api.Rat, want *big.Rat, l []api.Vec) {
	t.Helper()
	if !rat.Valid(got) || !identical(got, number(want)) {
		t.Fatalf("%s: %s: the result is %s, not %s", promise, show(l), show(got), show(want))
	}
}

func checkVec(t *testing.T, promise string, got api.Vec, want vec, l []api.Vec) {
	t.Helper()
	checkNumber(t, promise, got.X, want.x, l)
	checkNumber(t, promise, got.Y, want.y, l)
}

// Lists, numbers and frames.

// small returns 1 / 10^n.
func small(n int) *big.Rat {
	return new(big.Rat).SetFrac(big.NewInt(1), new(big.Int).Exp(big.NewInt(10), big.NewInt(int64(n)), nil))
}

// random returns a number whose numerator and denominator have n decimal digits at most.
func random(r *rand.Rand, n int) *big.Rat {
	p, q := new(big.Int), new(big.Int)
	for range 1 + r.IntN(n) {
		p.Add(p.Mul(p, big.NewInt(10)), big.NewInt(int64(r.IntN(10))))
	}
	for range r.IntN(n + 1) {
		q.Add(q.Mul(q, big.NewInt(10)), big.NewInt(int64(r.IntN(10))))
	}
	if q.Sign() == 0 {
		q.SetInt64(1)
	}
	if r.IntN(2) == 0 {
		p.Neg(p)
	}
	return new(big.Rat).SetFrac(p, q)
}

func randomVec(r *rand.Rand, n int) vec { return vec{random(r, n), random(r, n)} }

// randomFrame returns a frame that keeps what is to the left, whose numbers have n digits at most.
func randomFrame(r *rand.Rand, n int) frame {
	for {
		f := frame{randomVec(r, n), randomVec(r, n), randomVec(r, n)}
		switch determinant(f.right, f.up).Sign() {
		case 1:
			return f
		case -1:
			return frame{f.up, f.right, f.at}
		}
	}
}

func randomSpot(r *rand.Rand, size int) spot { return spot{r.IntN(size), r.IntN(size)} }

func randomSpots(r *rand.Rand, n, size int) []spot {
	var l []spot
	for range n {
		l = append(l, randomSpot(r, size))
	}
	return l
}

// randomPolygon returns a valid polygon with at most n corners, in most cases n: a triangle to which corners were added one by one.
func randomPolygon(r *rand.Rand, n, size int) []spot {
	l := randomSpots(r, 3, size)
	for !valid(l) {
		l = randomSpots(r, 3, size)
	}
	for range 60 * n {
		more := slices.Insert(slices.Clone(l), r.IntN(len(l)), randomSpot(r, size))
		if len(l) < n && valid(more) {
			l = more
		}
	}
	return l
}

// begunAt returns the list that begins at its corner k.
func begunAt[T any](l []T, k int) []T { return append(slices.Clone(l[k:]), l[:k]...) }

func reversed[T any](l []T) []T {
	l = slices.Clone(l)
	slices.Reverse(l)
	return l
}

// parabola returns n corners that turn to the left all around.
func parabola(n int) []spot {
	var l []spot
	for k := range n {
		l = append(l, spot{k, k * k})
	}
	return l
}

// Some polygons: the angle of the chapter, the one cut by the next layer, a comb, a star, and a spiral.
func shapes() map[string][]spot {
	return map[string][]spot{
		"triangle": {{0, 0}, {3, 1}, {1, 4}},
		"square":   {{0, 0}, {4, 0}, {4, 4}, {0, 4}},
		"diamond":  {{4, 0}, {8, 4}, {4, 8}, {0, 4}},
		"angle":    {{0, 0}, {4, 0}, {4, 2}, {2, 2}, {2, 4}, {0, 4}},
		"notch":    {{0, 0}, {4, 0}, {4, 4}, {2, 1}, {0, 4}},
		"dart":     {{0, 0}, {6, 2}, {2, 2}, {2, 6}},
		"comb":     {{0, 0}, {8, 0}, {8, 6}, {6, 6}, {6, 2}, {5, 2}, {5, 6}, {3, 6}, {3, 2}, {2, 2}, {2, 6}, {0, 6}},
		"star":     {{10, 0}, {4, 2}, {6, 8}, {2, 5}, {-5, 9}, {-4, 2}, {-10, 1}, {-4, -3}, {-5, -9}, {1, -4}, {6, -8}, {5, -2}},
		"spiral":   {{0, 0}, {8, 0}, {8, 8}, {2, 8}, {2, 4}, {4, 4}, {4, 6}, {6, 6}, {6, 2}, {1, 2}, {1, 9}, {0, 9}},
		"twelve":   parabola(12),
	}
}

func TestModel(t *testing.T) {
	for name, l := range shapes() {
		if !valid(l) || valid(reversed(l)) || has(l, l[0]) != 0 || has(l, spot{-50, 3}) != -1 {
			t.Error("the model contradicts itself at the", name)
		}
		if area(frame{vec{big.NewRat(1, 1), new(big.Rat)}, vec{new(big.Rat), big.NewRat(1, 1)}, add()}.list(l)).Cmp(big.NewRat(int64(twice(l)), 2)) != 0 {
			t.Error("the model has two areas of the", name)
		}
		if !polygon.Valid(corners(l)) {
			t.Error("P6.1: not valid: the", name)
		}
	}
	r := rand.New(rand.NewPCG(6, 1))
	counts := map[int]int{}
	for range 200 {
		counts[len(randomPolygon(r, 12, 12))]++
	}
	if counts[12] < 100 {
		t.Error("too few polygons have 12 corners:", counts)
	}
}
