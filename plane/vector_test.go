package plane_test

import (
	"math"
	"math/big"
	"math/rand/v2"
	"testing"

	"sherd/api"
	"sherd/plane"
	"sherd/rat"
)

// whole returns the number with the given digits, and below its negative.
func whole(d ...int) api.Rat { return api.Rat{P: api.Int{D: d}} }
func below(d ...int) api.Rat { return api.Rat{P: api.Int{Neg: true, D: d}} }

func TestOf(t *testing.T) {
	least, greatest := below(854775808, 223372036, 9), whole(854775807, 223372036, 9)
	for _, c := range []struct {
		x, y int
		want api.Vec
	}{
		{0, 0, api.Vec{}},
		{1, 2, api.Vec{X: whole(1), Y: whole(2)}},
		{-3, 0, api.Vec{X: below(3)}},
		{0, -3, api.Vec{Y: below(3)}},
		{1000000000, -999999999, api.Vec{X: whole(0, 1), Y: below(999999999)}},
		{math.MinInt, math.MaxInt, api.Vec{X: least, Y: greatest}},
		{math.MaxInt, math.MinInt, api.Vec{X: greatest, Y: least}},
		{math.MinInt, 0, api.Vec{X: least}},
		{0, math.MinInt, api.Vec{Y: least}},
	} {
		if got := plane.Of(c.x, c.y); !sameVec(got, c.want) {
			t.Errorf("P5.1: Of(%d, %d) is %v", c.x, c.y, got)
		}
	}
	for x := -50; x <= 50; x++ {
		for y := -50; y <= 50; y++ {
			checkVec(t, "P5.1", plane.Of(x, y), pair(int64(x), int64(y)), "Of", x, y)
		}
	}
}

func TestKnownVectors(t *testing.T) {
	a, b, half := plane.Of(3, -4), plane.Of(1, 2), rat.Of(1, 2)
	least, greatest := plane.Of(math.MinInt, math.MinInt), plane.Of(math.MaxInt, math.MaxInt)
	for _, c := range []struct {
		name      string
		got, want api.Vec
	}{
		{"(3, -4) + (1, 2)", plane.Add(a, b), plane.Of(4, -2)},
		{"(3, -4) - (1, 2)", plane.Sub(a, b), plane.Of(2, -6)},
		{"(1, 2) - (3, -4)", plane.Sub(b, a), plane.Of(-2, 6)},
		{"(3, -4) - (3, -4)", plane.Sub(a, a), api.Vec{}},
		{"(3, -4) + (0, 0)", plane.Add(a, api.Vec{}), a},
		{"(0, 0) - (3, -4)", plane.Sub(api.Vec{}, a), plane.Of(-3, 4)},
		{"(0, 0) + (0, 0)", plane.Add(api.Vec{}, api.Vec{}), api.Vec{}},
		{"(3, -4) * 0", plane.Scale(a, api.Rat{}), api.Vec{}},
		{"(0, 0) * 1/2", plane.Scale(api.Vec{}, half), api.Vec{}},
		{"(3, -4) * 1", plane.Scale(a, rat.Of(1, 1)), a},
		{"(3, -4) * -1", plane.Scale(a, rat.Of(-1, 1)), plane.Of(-3, 4)},
		{"(3, -4) * -5", plane.Scale(a, rat.Of(-5, 1)), plane.Of(-15, 20)},
		{"(3, -4) * 1/2", plane.Scale(a, half), api.Vec{X: rat.Of(3, 2), Y: below(2)}},
		{"the least ints + the greatest", plane.Add(least, greatest), plane.Of(-1, -1)},
		{"the greatest ints + (1, 1)", plane.Add(greatest, plane.Of(1, 1)), plane.Scale(least, rat.Of(-1, 1))},
		{"the greatest ints - the least", plane.Sub(greatest, least), api.Vec{X: whole(709551615, 446744073, 18), Y: whole(709551615, 446744073, 18)}},
	} {
		if !sameVec(c.got, c.want) {
			t.Errorf("P5.1: %s is %v", c.name, c.got)
		}
	}
}

func TestKnownProducts(t *testing.T) {
	a, b := plane.Of(3, -4), plane.Of(1, 2)
	for _, c := range []struct {
		a, b       api.Vec
		dot, cross api.Rat
	}{
		{a, b, below(5), whole(10)},
		{b, a, below(5), below(10)},
		{a, a, whole(25), api.Rat{}},
		{a, plane.Of(-3, 4), below(25), api.Rat{}},
		{a, plane.Of(4, 3), api.Rat{}, whole(25)},
		{a, plane.Of(-4, -3), api.Rat{}, below(25)},
		{a, api.Vec{}, api.Rat{}, api.Rat{}},
		{api.Vec{}, a, api.Rat{}, api.Rat{}},
		{api.Vec{}, api.Vec{}, api.Rat{}, api.Rat{}},
		{plane.Of(1, 0), plane.Of(0, 1), api.Rat{}, whole(1)},
		{plane.Of(0, 1), plane.Of(1, 0), api.Rat{}, below(1)},
		{api.Vec{X: rat.Of(1, 2), Y: rat.Of(1, 3)}, api.Vec{X: rat.Of(1, 3), Y: rat.Of(1, 2)}, rat.Of(1, 3), rat.Of(5, 36)},
		{plane.Of(1<<32, 1<<32), plane.Of(1<<32, -1<<32), api.Rat{}, below(419103232, 893488147, 36)},
	} {
		if got := plane.Dot(c.a, c.b); !identical(got, c.dot) {
			t.Errorf("P5.1: Dot(%v, %v) is %v", c.a, c.b, got)
		}
		if got := plane.Cross(c.a, c.b); !identical(got, c.cross) {
			t.Errorf("P5.1: Cross(%v, %v) is %v", c.a, c.b, got)
		}
	}
}

// checkVectors compares what is calculated with two vectors and a number with the model.
func checkVectors(t *testing.T, v, w vec, k *big.Rat) {
	t.Helper()
	a, b := vector(v), vector(w)
	checkVec(t, "P5.1", plane.Add(a, b), add(v, w), "Add", v, w)
	checkVec(t, "P5.1", plane.Sub(a, b), sub(v, w), "Sub", v, w)
	checkVec(t, "P5.1", plane.Scale(a, number(k)), scale(v, k), "Scale", v, k)
	checkNumber(t, "P5.1", plane.Dot(a, b), dot(v, w), "Dot", v, w)
	checkNumber(t, "P5.1", plane.Cross(a, b), cross(v, w), "Cross", v, w)
}

func TestVectorsAtEdges(t *testing.T) {
	l, numbers := edgeVecs(), edges()
	for i, v := range l {
		for j := i % 7; j < len(l); j += 7 {
			checkVectors(t, v, l[j], numbers[(i+j/7)%len(numbers)])
		}
	}
}

func TestSmallVectors(t *testing.T) {
	l := gridVecs(4)
	for i, v := range l {
		for j, w := range l {
			checkVectors(t, v, w, big.NewRat(int64((i+j)%9-4), 3))
		}
	}
}

func TestRandomVectors(t *testing.T) {
	r := rand.New(rand.NewPCG(5, 1))
	for range 3000 {
		checkVectors(t, randomVec(r, 30), randomVec(r, 30), random(r, 30))
	}
	for range 3 {
		checkVectors(t, randomVec(r, 3000), randomVec(r, 3000), random(r, 3000))
	}
}
