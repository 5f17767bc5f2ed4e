package plane_test

import (
	"math"
	"math/big"
	"math/rand/v2"
	"slices"
	"testing"

	"sherd/api"
	"sherd/plane"
	"sherd/rat"
)

func TestKnownSides(t *testing.T) {
	zero, least, greatest := api.Vec{}, plane.Of(math.MinInt, math.MinInt), plane.Of(math.MaxInt, math.MaxInt)
	for _, c := range []struct {
		a, b, c api.Vec
		want    int
	}{
		{zero, plane.Of(2, 0), plane.Of(1, 1), 1},
		{zero, plane.Of(2, 0), plane.Of(1, -1), -1},
		{zero, plane.Of(2, 0), plane.Of(1, 0), 0},
		{zero, plane.Of(2, 0), plane.Of(5, 0), 0},
		{zero, plane.Of(2, 0), plane.Of(-5, 0), 0},
		{zero, plane.Of(2, 0), plane.Of(-5, 1), 1},
		{plane.Of(1, 1), plane.Of(1, 5), plane.Of(0, 3), 1},
		{plane.Of(1, 1), plane.Of(1, 5), plane.Of(2, 3), -1},
		{plane.Of(1, 1), plane.Of(3, 2), plane.Of(5, 3), 0},
		{plane.Of(-3, 1), plane.Of(3, -2), plane.Of(1, -1), 0},
		{plane.Of(3, -2), plane.Of(-3, 1), plane.Of(-1, 1), -1},
		{zero, zero, zero, 0},
		{zero, zero, plane.Of(1, 1), 0},
		{plane.Of(4, 7), plane.Of(4, 7), plane.Of(1, 2), 0},
		{plane.Of(4, 7), plane.Of(1, 2), plane.Of(4, 7), 0},
		{plane.Of(1, 2), plane.Of(4, 7), plane.Of(4, 7), 0},
		{plane.Of(4, 7), plane.Of(4, 7), plane.Of(4, 7), 0},
		{least, greatest, zero, 0},
		{least, greatest, plane.Of(-1, 0), 1},
		{least, greatest, plane.Of(0, -1), -1},
		{greatest, least, plane.Of(math.MaxInt, math.MinInt), 1},
		{zero, plane.Of(3, 1), api.Vec{X: rat.Of(1, 1), Y: rat.Of(1, 3)}, 0},
		{zero, plane.Of(3, 1), api.Vec{X: rat.Of(1, 1), Y: rat.Of(333333334, 1000000000)}, 1},
		{zero, plane.Of(3, 1), api.Vec{X: rat.Of(1, 1), Y: rat.Of(333333333, 1000000000)}, -1},
	} {
		if got := plane.Side(c.a, c.b, c.c); got != c.want {
			t.Errorf("P5.2: Side(%v, %v, %v) is %d", c.a, c.b, c.c, got)
		}
	}
}

// checkSides compares Side of all orders of three points with the model, and with each other.
func checkSides(t *testing.T, u, v, w vec) {
	t.Helper()
	a, b, c, want := vector(u), vector(v), vector(w), side(u, v, w)
	if got := plane.Side(a, b, c); got != want {
		t.Fatalf("P5.2: Side(%s, %s, %s) is %d", show(u), show(v), show(w), got)
	}
	if plane.Side(b, c, a) != want || plane.Side(c, a, b) != want {
		t.Fatalf("P5.9: Side of %s, %s and %s changes if they are exchanged cyclically", show(u), show(v), show(w))
	}
	if plane.Side(b, a, c) != -want || plane.Side(a, c, b) != -want || plane.Side(c, b, a) != -want {
		t.Fatalf("P5.9: Side of %s, %s and %s does not change its sign if two are exchanged", show(u), show(v), show(w))
	}
}

func TestSides(t *testing.T) {
	l := gridVecs(2)
	for _, u := range l {
		for _, v := range l {
			for _, w := range l {
				checkSides(t, u, v, w)
			}
		}
	}
	r := rand.New(rand.NewPCG(5, 2))
	l = edgeVecs()
	for range 1500 {
		u, v := l[r.IntN(len(l))], l[r.IntN(len(l))]
		checkSides(t, u, v, l[r.IntN(len(l))])
		checkSides(t, u, v, u)
		checkSides(t, randomVec(r, 20), randomVec(r, 20), randomVec(r, 20))
	}
}

// Points on a line, and points next to it.
func TestSidesOfLines(t *testing.T) {
	r := rand.New(rand.NewPCG(5, 3))
	for k := range 1000 {
		digits := 1 + k%40
		if k < 2 {
			digits = 800
		}
		u, v := randomVec(r, digits), randomVec(r, digits)
		w := add(u, scale(sub(v, u), random(r, digits)))
		checkSides(t, u, v, w)
		if plane.Side(vector(u), vector(v), vector(w)) != 0 {
			t.Fatalf("P5.2: the points %s, %s and %s are on a line", show(u), show(v), show(w))
		}
		little := new(big.Rat).SetFrac(big.NewInt(int64(1-2*(k%2))), power(10, 3*digits))
		checkSides(t, u, v, add(w, vec{little, new(big.Rat)}))
		checkSides(t, u, v, add(w, vec{new(big.Rat), little}))
	}
}

func TestKnownOrder(t *testing.T) {
	half, third := rat.Of(1, 2), rat.Of(1, 3)
	// Each vector is before those that follow it.
	l := []api.Vec{
		plane.Of(math.MinInt, math.MinInt), plane.Of(math.MinInt, 0), plane.Of(math.MinInt, math.MaxInt), plane.Of(-1, 5), plane.Of(0, math.MinInt),
		plane.Of(0, -1), {}, {Y: third}, {Y: half}, plane.Of(0, 1), {X: third, Y: half}, {X: half, Y: below(7)}, {X: half}, {X: half, Y: third},
		plane.Of(1, -1), plane.Of(1, 0), plane.Of(1, 1), plane.Of(2, -9), plane.Of(math.MaxInt, math.MinInt), plane.Of(math.MaxInt, math.MaxInt),
	}
	for i, a := range l {
		for j, b := range l {
			want := 0
			if i < j {
				want = -1
			} else if i > j {
				want = 1
			}
			if got := plane.Compare(a, b); got != want {
				t.Errorf("P5.2: Compare(%v, %v) is %d", a, b, got)
			}
			if got := plane.Same(a, b); got != (i == j) {
				t.Errorf("P5.2: Same(%v, %v) is %v", a, b, got)
			}
		}
	}
}

// order is the model of Compare.
func order(v, w vec) int {
	if v.x.Cmp(w.x) != 0 {
		return v.x.Cmp(w.x)
	}
	return v.y.Cmp(w.y)
}

// checkOrder compares what is said about the order of two vectors with the model.
func checkOrder(t *testing.T, v, w vec) {
	t.Helper()
	a, b := vector(v), vector(w)
	if got := plane.Compare(a, b); got != order(v, w) {
		t.Fatalf("P5.2: Compare(%s, %s) is %d", show(v), show(w), got)
	}
	if got := plane.Same(a, b); got != same(v, w) {
		t.Fatalf("P5.2: Same(%s, %s) is %v", show(v), show(w), got)
	}
	if plane.Compare(b, a) != -order(v, w) || plane.Compare(a, a) != 0 || !plane.Same(a, a) {
		t.Fatalf("P5.9: Compare is no total order: %s, %s", show(v), show(w))
	}
}

func TestOrder(t *testing.T) {
	l := append(edgeVecs(), gridVecs(3)...)
	for i, v := range l {
		for j := i % 5; j < len(l); j += 5 {
			checkOrder(t, v, l[j])
		}
	}
	r := rand.New(rand.NewPCG(5, 4))
	for k := range 3000 {
		digits := 1 + k%40
		if k < 4 {
			digits = 2000
		}
		v, w := randomVec(r, digits), randomVec(r, digits)
		checkOrder(t, v, w)
		checkOrder(t, v, vec{v.x, w.y})
		checkOrder(t, v, vec{w.x, v.y})
		little := new(big.Rat).SetFrac(big.NewInt(1), power(10, 3*digits))
		checkOrder(t, v, vec{v.x, new(big.Rat).Add(v.y, little)})
		checkOrder(t, v, vec{new(big.Rat).Add(v.x, little), v.y})
	}
}

// Sorted lists show that the order is transitive: each element has to be before all later ones that are not equal to it.
func TestOrderIsTotal(t *testing.T) {
	r := rand.New(rand.NewPCG(5, 5))
	var l []api.Vec
	all := edges()
	for range 120 {
		l = append(l, vector(vec{all[r.IntN(len(all))], all[r.IntN(len(all))]}), vector(vec{random(r, 3), random(r, 3)}))
	}
	slices.SortFunc(l, plane.Compare)
	for i, a := range l {
		for _, b := range l[i:] {
			if c := plane.Compare(a, b); c > 0 || plane.Compare(b, a) != -c || (c == 0) != plane.Same(a, b) {
				t.Fatal("P5.9: Compare is no total order:", show(a), show(b))
			}
		}
	}
}
