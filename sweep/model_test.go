package sweep_test

import (
	"fmt"
	"math/big"
	"math/rand/v2"
	"slices"
	"testing"

	"sherd/api"
	"sherd/plane"
	"sherd/polygon"
	"sherd/rat"
)

// spot is a point with small coordinates, and a frame leads spots to vectors: (x, y) to x times right, y times up and at, added up.
type spot struct{ x, y int }
type vec struct{ x, y *big.Rat }
type frame struct{ right, up, at vec }

func times(a, b *big.Rat) *big.Rat { return new(big.Rat).Mul(a, b) }

func plus(a, b *big.Rat) *big.Rat { return new(big.Rat).Add(a, b) }

func less(a, b *big.Rat) *big.Rat { return new(big.Rat).Sub(a, b) }

func quotient(a, b *big.Rat) *big.Rat { return new(big.Rat).Quo(a, b) }

func minus(a *big.Rat) *big.Rat { return new(big.Rat).Neg(a) }

func size(a *big.Rat) *big.Rat { return new(big.Rat).Abs(a) }

func whole(n int) *big.Rat { return big.NewRat(int64(n), 1) }

func greater(a, b *big.Rat) *big.Rat {
	if a.Cmp(b) < 0 {
		return b
	}
	return a
}

func add(v, w vec) vec { return vec{plus(v.x, w.x), plus(v.y, w.y)} }

func sub(v, w vec) vec { return vec{less(v.x, w.x), less(v.y, w.y)} }

func scale(v vec, k *big.Rat) vec { return vec{times(v.x, k), times(v.y, k)} }

func dot(v, w vec) *big.Rat { return plus(times(v.x, w.x), times(v.y, w.y)) }

// bend is positive, if the way from a to b to c turns to the left, and negative, if it turns to the right.
func bend(a, b, c vec) int {
	v, w := sub(b, a), sub(c, b)
	return times(v.x, w.y).Cmp(times(v.y, w.x))
}

// The next functions follow the wording of the chapter.

func gap(n vec, a, b []vec) *big.Rat {
	least, greatest := dot(n, b[0]), dot(n, a[0])
	for _, q := range b {
		if v := dot(n, q); v.Cmp(least) < 0 {
			least = v
		}
	}
	for _, p := range a {
		greatest = greater(greatest, dot(n, p))
	}
	return less(least, greatest)
}

// length returns the sum of the absolute values of both coordinates.
func length(n vec) *big.Rat { return plus(size(n.x), size(n.y)) }

func dirs(a, b []vec) []vec {
	var l []vec
	for k, p := range a {
		side := sub(a[(k+1)%len(a)], p)
		l = append(l, vec{side.y, minus(side.x)})
	}
	for k, p := range b {
		side := sub(b[(k+1)%len(b)], p)
		l = append(l, vec{minus(side.y), side.x})
	}
	return append(l, spot{1, 0}.vec(), spot{0, 1}.vec(), spot{-1, 0}.vec(), spot{0, -1}.vec())
}

// scene is a shape that moves by v, or along it, past another one, from which it has to stay apart by e.
type scene struct {
	a, b []vec
	v    vec
	e    *big.Rat
}

// by returns the scene with another margin.
func (c scene) by(e *big.Rat) scene { return scene{c.a, c.b, c.v, e} }

// at returns the corners of a at a time.
func (c scene) at(time *big.Rat) []vec {
	var l []vec
	for _, p := range c.a {
		l = append(l, add(p, scale(c.v, time)))
	}
	return l
}

// excess returns by how much the gap of n exceeds the room at a time.
func (c scene) excess(n vec, time *big.Rat) *big.Rat {
	return less(gap(n, c.at(time), c.b), times(c.e, length(n)))
}

// span is the times, from 0 on, at which a direction separates: without an end, if to is nil.
type span struct {
	n        vec
	from, to *big.Rat
}

func (s span) has(time *big.Rat) bool {
	return s.from != nil && s.from.Cmp(time) <= 0 && (s.to == nil || s.to.Cmp(time) >= 0)
}

// spans returns the times of all directions, found by the gaps at two of them; those that never separate from 0 on have no beginning.
func (c scene) spans() []span {
	var l []span
	for _, n := range dirs(c.a, c.b) {
		first := c.excess(n, whole(0))
		slope := less(c.excess(n, whole(1)), first)
		s := span{n: n}
		if first.Sign() >= 0 {
			s.from = whole(0)
			if slope.Sign() < 0 {
				s.to = quotient(first, minus(slope))
			}
		} else if slope.Sign() > 0 {
			s.from = quotient(minus(first), slope)
		}
		l = append(l, s)
	}
	return l
}

// guard is what shows that shapes stay apart: two directions, of which one separates until a time, and the other one from it on.
type guard struct {
	first, second vec
	until         *big.Rat
}

// both reports whether two directions separate at the same time, up to a last one, if there is one.
func both(s, t span, last *big.Rat) bool {
	if s.from == nil || t.from == nil {
		return false
	}
	from := greater(s.from, t.from)
	return s.has(from) && t.has(from) && (last == nil || from.Cmp(last) <= 0)
}

// free returns the guard that Free returns, or nil.
func (c scene) free() *guard {
	zero, one := whole(0), whole(1)
	l := c.spans()
	for _, s := range l {
		if s.has(zero) && s.has(one) {
			return &guard{s.n, s.n, one}
		}
	}
	for _, s := range l {
		for _, t := range l {
			if both(s, t, one) && s.has(zero) && t.has(one) {
				if s.to.Cmp(one) < 0 {
					one = s.to
				}
				return &guard{s.n, t.n, one}
			}
		}
	}
	return nil
}

// away returns the guard that Away returns, or nil.
func (c scene) away() *guard {
	zero := whole(0)
	l := c.spans()
	for _, s := range l {
		if s.has(zero) && dot(s.n, c.v).Sign() <= 0 {
			return &guard{s.n, s.n, zero}
		}
	}
	for _, s := range l {
		for _, t := range l {
			if both(s, t, nil) && s.has(zero) && dot(t.n, c.v).Sign() < 0 {
				return &guard{s.n, t.n, s.to}
			}
		}
	}
	return nil
}

// hit returns the bounds of the times from 0 to 1 at which no direction separates, or nil and nil: all times at which a direction begins or ceases to separate are looked at, and one between each two of them.
func (c scene) hit() (*big.Rat, *big.Rat) {
	zero, one := whole(0), whole(1)
	l := c.spans()
	moments := []*big.Rat{zero, one}
	for _, s := range l {
		for _, time := range []*big.Rat{s.from, s.to} {
			if time != nil && time.Cmp(one) < 0 {
				moments = append(moments, time)
			}
		}
	}
	slices.SortFunc(moments, (*big.Rat).Cmp)
	none := func(time *big.Rat) bool {
		return !slices.ContainsFunc(l, func(s span) bool { return s.has(time) })
	}
	var low, high *big.Rat
	note := func(from, to *big.Rat) {
		if none(quotient(plus(from, to), whole(2))) {
			if low == nil {
				low = from
			}
			high = to
		}
	}
	note(zero, zero)
	for k := range moments[1:] {
		note(moments[k], moments[k+1])
	}
	note(one, one)
	return low, high
}

// shown reports whether a guard shows that shapes stay apart: until 1, or, if it is so ever, without an end.
func (c scene) shown(g guard, ever bool) bool {
	zero, one := whole(0), whole(1)
	separates := func(n vec, time *big.Rat) bool {
		return length(n).Sign() != 0 && c.excess(n, time).Sign() >= 0
	}
	if g.until.Sign() < 0 || !separates(g.first, zero) || !separates(g.first, g.until) || !separates(g.second, g.until) {
		return false
	}
	if ever {
		return dot(g.second, c.v).Sign() <= 0
	}
	return g.until.Cmp(one) <= 0 && separates(g.second, one)
}

// greatest returns the greatest margin by which shapes are apart at a time.
func (c scene) greatest(time *big.Rat) *big.Rat {
	var most *big.Rat
	a := c.at(time)
	for _, n := range dirs(c.a, c.b) {
		if m := quotient(gap(n, a, c.b), length(n)); most == nil || m.Cmp(most) > 0 {
			most = m
		}
	}
	return most
}

// widest returns the greatest margin by which shapes stay apart: until 1, or, if it is so ever, without an end. The greatest margins bend only where those of two directions are the same.
func (c scene) widest(ever bool) *big.Rat {
	moments := []*big.Rat{whole(0)}
	if !ever {
		moments = append(moments, whole(1))
	}
	var starts, slopes []*big.Rat
	first, second := c.at(whole(0)), c.at(whole(1))
	for _, n := range dirs(c.a, c.b) {
		start := quotient(gap(n, first, c.b), length(n))
		slope := less(quotient(gap(n, second, c.b), length(n)), start)
		for k := range starts {
			if slopes[k].Cmp(slope) == 0 {
				continue
			}
			time := quotient(less(starts[k], start), less(slope, slopes[k]))
			if time.Sign() >= 0 && (ever || time.Cmp(whole(1)) <= 0) {
				moments = append(moments, time)
			}
		}
		starts, slopes = append(starts, start), append(slopes, slope)
	}
	var least *big.Rat
	for _, time := range moments {
		most := plus(starts[0], times(slopes[0], time))
		for k := range starts {
			most = greater(most, plus(starts[k], times(slopes[k], time)))
		}
		if least == nil || most.Cmp(least) < 0 {
			least = most
		}
	}
	return least
}

// The next functions measure shapes in another way, without directions that separate them: by the polygon of all differences of their points.

// round returns the least convex polygon with some points.
func round(points []vec) []vec {
	points = slices.Clone(points)
	slices.SortFunc(points, func(v, w vec) int {
		if c := v.x.Cmp(w.x); c != 0 {
			return c
		}
		return v.y.Cmp(w.y)
	})
	half := func() []vec {
		var l []vec
		for _, p := range points {
			for len(l) > 1 && bend(l[len(l)-2], l[len(l)-1], p) <= 0 {
				l = l[:len(l)-1]
			}
			l = append(l, p)
		}
		return l[:len(l)-1]
	}
	lower := half()
	slices.Reverse(points)
	return append(lower, half()...)
}

// near returns the least number such that (0, 0) and a point between p and q differ by it in one coordinate and by no more in the other one.
func near(p, q vec) *big.Rat {
	way := sub(q, p)
	parts := []*big.Rat{whole(0), whole(1)}
	// It is found at an end, or where both coordinates are as great, or where one of them is 0.
	for _, f := range []func(v vec) *big.Rat{
		func(v vec) *big.Rat { return v.x },
		func(v vec) *big.Rat { return v.y },
		func(v vec) *big.Rat { return plus(v.x, v.y) },
		func(v vec) *big.Rat { return less(v.x, v.y) },
	} {
		if f(way).Sign() != 0 {
			parts = append(parts, quotient(minus(f(p)), f(way)))
		}
	}
	var least *big.Rat
	for _, part := range parts {
		if part.Sign() < 0 || part.Cmp(whole(1)) > 0 {
			continue
		}
		v := add(p, scale(way, part))
		if far := greater(size(v.x), size(v.y)); least == nil || far.Cmp(least) < 0 {
			least = far
		}
	}
	return least
}

// distance returns by how much two shapes differ at least in the coordinate in which they differ more; if they have points in common, it is negative or 0, and by as much one of them has to be moved in some coordinate.
func distance(a, b []vec) *big.Rat {
	var differences []vec
	for _, p := range a {
		for _, q := range b {
			differences = append(differences, sub(q, p))
		}
	}
	l := round(differences)
	inside := true
	var least *big.Rat
	for k, p := range l {
		q := l[(k+1)%len(l)]
		inside = inside && bend(p, q, vec{new(big.Rat), new(big.Rat)}) >= 0
		if far := near(p, q); least == nil || far.Cmp(least) < 0 {
			least = far
		}
	}
	if inside {
		return minus(least)
	}
	return least
}

// Between the model and the program.

func number(v *big.Rat) api.Rat {
	a, e := rat.Parse(v.RatString())
	if e != api.OK {
		panic("the text of a number is too long")
	}
	return a
}

func vector(v vec) api.Vec { return api.Vec{X: number(v.x), Y: number(v.y)} }

func vectors(l []vec) []api.Vec {
	var made []api.Vec
	for _, v := range l {
		made = append(made, vector(v))
	}
	return made
}

func (p spot) vec() vec { return vec{whole(p.x), whole(p.y)} }

func (f frame) put(p spot) vec {
	return add(add(scale(f.right, whole(p.x)), scale(f.up, whole(p.y))), f.at)
}

func (f frame) list(l []spot) []vec {
	var moved []vec
	for _, p := range l {
		moved = append(moved, f.put(p))
	}
	return moved
}

func plain() frame { return frame{spot{1, 0}.vec(), spot{0, 1}.vec(), spot{0, 0}.vec()} }

func corners(l []spot) []api.Vec {
	var made []api.Vec
	for _, p := range l {
		made = append(made, plane.Of(p.x, p.y))
	}
	return made
}

// identical reports whether two numbers have the same signs and digits, sameVec and sameList whether those of two vectors and two lists are the same.
func identical(a, b api.Rat) bool {
	return a.P.Neg == b.P.Neg && a.Q.Neg == b.Q.Neg && slices.Equal(a.P.D, b.P.D) && slices.Equal(a.Q.D, b.Q.D)
}

func sameVec(a, b api.Vec) bool { return identical(a.X, b.X) && identical(a.Y, b.Y) }

func sameList(l, m []api.Vec) bool { return slices.EqualFunc(l, m, sameVec) }

// show is for messages: numbers, vectors and lists of them, shortened in the middle.
func show(x any) string {
	s := ""
	switch x := x.(type) {
	case api.Rat:
		s = rat.Text(x)
	case api.Vec:
		return "(" + show(x.X) + ", " + show(x.Y) + ")"
	case []api.Vec:
		for _, a := range x {
			s += " " + show(a)
		}
		return "[" + s + " ]"
	case api.Guard:
		return show(x.First) + " until " + show(x.Until) + " " + show(x.Second)
	case []api.Guard:
		for _, g := range x {
			s += " " + show(g)
		}
		return "[" + s + " ]"
	case [][]api.Vec:
		for _, l := range x {
			s += " " + show(l)
		}
		return "[" + s + " ]"
	case *big.Rat:
		s = x.RatString()
	case vec:
		return show(vector(x))
	case []vec:
		return show(vectors(x))
	default:
		s = fmt.Sprint(x)
	}
	if len(s) > 160 {
		s = fmt.Sprintf("%s...%s (%d bytes)", s[:70], s[len(s)-70:], len(s))
	}
	return s
}

// Shapes, numbers and frames.

// small returns 1 / 10^n.
func small(n int) *big.Rat {
	return new(big.Rat).SetFrac(whole(1).Num(), new(big.Int).Exp(big.NewInt(10), big.NewInt(int64(n)), nil))
}

// random returns a number whose numerator and denominator have n decimal digits at most.
func random(r *rand.Rand, n int) *big.Rat {
	digits := func(n int) *big.Int {
		p := new(big.Int)
		for range n {
			p.Add(p.Mul(p, big.NewInt(10)), big.NewInt(int64(r.IntN(10))))
		}
		return p
	}
	q := digits(r.IntN(n))
	v := new(big.Rat).SetFrac(digits(1+r.IntN(n)), q.Add(q, big.NewInt(1)))
	if r.IntN(2) == 0 {
		v.Neg(v)
	}
	return v
}

func randomVec(r *rand.Rand, n int) vec { return vec{random(r, n), random(r, n)} }

// randomFrame returns a frame that keeps what is to the left, whose numbers have n digits at most.
func randomFrame(r *rand.Rand, n int) frame {
	for {
		f := frame{randomVec(r, n), randomVec(r, n), randomVec(r, n)}
		switch times(f.right.x, f.up.y).Cmp(times(f.right.y, f.up.x)) {
		case 1:
			return f
		case -1:
			return frame{f.up, f.right, f.at}
		}
	}
}

func randomSpots(r *rand.Rand, n, size int) []spot {
	var l []spot
	for range n {
		l = append(l, spot{r.IntN(size), r.IntN(size)})
	}
	return l
}

// begunAt returns the list that begins at its corner k.
func begunAt[T any](l []T, k int) []T { return append(slices.Clone(l[k:]), l[:k]...) }

func moved(l []spot, x, y int) []spot {
	var m []spot
	for _, p := range l {
		m = append(m, spot{p.x + x, p.y + y})
	}
	return m
}

// part returns a list of some of the corners, at least three, that begins at any of them.
func part(r *rand.Rand, l []spot) []spot {
	var m []spot
	for len(m) < 3 {
		m = nil
		for _, p := range l {
			if r.IntN(3) > 0 {
				m = append(m, p)
			}
		}
	}
	return begunAt(m, r.IntN(len(m)))
}

// some returns one of several shapes: part of one of twelve corners, or one with corners on a small grid.
func some(r *rand.Rand) []spot {
	switch r.IntN(5) {
	case 0:
		return part(r, shapes()["twelve"])
	case 1:
		return part(r, shapes()["parabola"])
	}
	l := onGrid[r.IntN(len(onGrid))]
	return moved(begunAt(l, r.IntN(len(l))), r.IntN(6)-3, r.IntN(6)-3)
}

// onGrid is the shapes with corners on a grid of 3 times 3 points.
var onGrid = gridShapes(3)

// gridShapes returns all shapes with corners on a grid of n times n points, each of which begins at its first corner in the order of the grid.
func gridShapes(n int) [][]spot {
	var all [][]spot
	for set := range 1 << (n * n) {
		var points []vec
		for k := range n * n {
			if set>>k&1 == 1 {
				points = append(points, spot{k / n, k % n}.vec())
			}
		}
		if len(points) < 3 {
			continue
		}
		// The points are the corners of a shape, if none of them is left out around them.
		if l := round(points); len(l) == len(points) {
			var m []spot
			for _, p := range l {
				m = append(m, spot{int(p.x.Num().Int64()), int(p.y.Num().Int64())})
			}
			all = append(all, m)
		}
	}
	return all
}

func shapes() map[string][]spot {
	twelve, parabola, at := []spot(nil), []spot(nil), spot{-1, -4}
	for _, way := range []spot{{2, 0}, {2, 1}, {1, 1}, {1, 2}, {0, 2}, {-1, 1}, {-2, 1}, {-2, 0}, {-2, -1}, {-1, -3}, {0, -3}, {2, -1}} {
		twelve = append(twelve, at)
		at = spot{at.x + way.x, at.y + way.y}
	}
	for k := range 12 {
		parabola = append(parabola, spot{k - 6, (k - 6) * (k - 6)})
	}
	return map[string][]spot{
		"triangle": {{0, 0}, {3, 1}, {1, 4}},
		"square":   {{0, 0}, {2, 0}, {2, 2}, {0, 2}},
		"diamond":  {{0, -1}, {1, 0}, {0, 1}, {-1, 0}},
		"needle":   {{0, 0}, {9, 8}, {10, 9}},
		"house":    {{0, 0}, {4, 0}, {4, 2}, {2, 3}, {0, 2}},
		"twelve":   twelve,
		"parabola": parabola,
	}
}

// someScene returns one of several scenes, in a frame, without a margin.
func someScene(r *rand.Rand, f frame) scene {
	far := func(n int) spot { return spot{r.IntN(2*n+1) - n, r.IntN(2*n+1) - n} }
	at := far(7)
	v := far(12)
	return scene{f.list(some(r)), f.list(moved(some(r), at.x, at.y)), sub(f.put(v), f.at), new(big.Rat)}
}

// frameOf returns a plain frame, or one with numbers of several digits.
func frameOf(r *rand.Rand, k int) frame {
	if k%3 > 0 {
		return plain()
	}
	return randomFrame(r, 1+k%9)
}

func TestModel(t *testing.T) {
	for name, l := range shapes() {
		if !polygon.Convex(corners(l)) {
			t.Error("no shape: the", name)
		}
	}
	r := rand.New(rand.NewPCG(9, 1))
	counts := map[string]int{}
	for k := range 200 {
		c := someScene(r, frameOf(r, k))
		time := quotient(whole(r.IntN(9)), whole(8))
		if got := distance(c.at(time), c.b); got.Cmp(c.greatest(time)) != 0 {
			t.Error("the distance of", show(c.at(time)), "and", show(c.b), "is", show(got), "and", show(c.greatest(time)))
		}
		c = c.by([]*big.Rat{whole(0), c.widest(false), c.widest(true)}[k%3])
		low, high := c.hit()
		g := c.free()
		if (g == nil) != (low != nil) || (low == nil) != (high == nil) {
			t.Fatal("the model contradicts itself:", show(c.a), show(c.b), show(c.v), show(c.e))
		}
		switch {
		case g == nil:
			counts["hit"]++
		case g.until.Cmp(whole(1)) == 0:
			counts["one"]++
		default:
			counts["two"]++
		}
		h := c.away()
		switch {
		case h == nil:
			counts["hit in the end"]++
		case h.until.Sign() == 0:
			counts["one ever"]++
		default:
			counts["two ever"]++
		}
		if g != nil && !c.shown(*g, false) || h != nil && !c.shown(*h, true) {
			t.Fatal("the guards of the model show nothing:", show(c.a), show(c.b), show(c.v), show(c.e))
		}
	}
	for _, kind := range []string{"hit", "one", "two", "hit in the end", "one ever", "two ever"} {
		if counts[kind] < 20 {
			t.Error("too few scenes:", kind, counts)
		}
	}
}
