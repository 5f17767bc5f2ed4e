package plane_test

import (
	"math"
	"math/big"
	"math/rand/v2"
	"testing"

	"sherd/api"
	"sherd/plane"
	"sherd/rat"
)

func TestKnownAlignments(t *testing.T) {
	zero, half := api.Vec{}, rat.Of(1, 2)
	still, turned := plane.Still(), api.Turn{C: below(1)}
	for _, c := range []struct {
		a, b api.Vec
		want api.Turn
		e    api.Errno
	}{
		{plane.Of(5, 0), plane.Of(3, 4), api.Turn{C: rat.Of(3, 5), S: rat.Of(4, 5)}, api.OK},
		{plane.Of(3, 4), plane.Of(5, 0), api.Turn{C: rat.Of(3, 5), S: rat.Of(-4, 5)}, api.OK},
		{plane.Of(5, 0), plane.Of(-3, 4), api.Turn{C: rat.Of(-3, 5), S: rat.Of(4, 5)}, api.OK},
		{plane.Of(5, 0), plane.Of(-3, -4), api.Turn{C: rat.Of(-3, 5), S: rat.Of(-4, 5)}, api.OK},
		{plane.Of(1, 8), plane.Of(4, 7), api.Turn{C: rat.Of(12, 13), S: rat.Of(-5, 13)}, api.OK},
		{plane.Of(2, 3), plane.Of(-3, 2), api.Turn{S: whole(1)}, api.OK},
		{plane.Of(2, 3), plane.Of(3, -2), api.Turn{S: below(1)}, api.OK},
		{plane.Of(2, 3), plane.Of(2, 3), still, api.OK},
		{plane.Of(2, 3), plane.Of(-2, -3), turned, api.OK},
		{plane.Of(0, -7), plane.Of(0, -7), still, api.OK},
		{plane.Of(0, -7), plane.Of(0, 7), turned, api.OK},
		{plane.Of(math.MinInt, 0), plane.Of(0, math.MinInt), api.Turn{S: whole(1)}, api.OK},
		{api.Vec{X: half}, api.Vec{Y: half}, api.Turn{S: whole(1)}, api.OK},
		{api.Vec{X: half}, api.Vec{X: rat.Of(3, 10), Y: rat.Of(-2, 5)}, api.Turn{C: rat.Of(3, 5), S: rat.Of(-4, 5)}, api.OK},
		{plane.Of(1, 0), plane.Of(1, 1), api.Turn{}, api.ErrDiffer},
		{plane.Of(1, 1), plane.Of(1, 0), api.Turn{}, api.ErrDiffer},
		{plane.Of(1, 2), plane.Of(2, 4), api.Turn{}, api.ErrDiffer},
		{plane.Of(1, 2), plane.Of(-2, -4), api.Turn{}, api.ErrDiffer},
		{plane.Of(3, 4), plane.Of(4, 4), api.Turn{}, api.ErrDiffer},
		{plane.Of(5, 1), plane.Of(3, 3), api.Turn{}, api.ErrDiffer},
		{plane.Of(math.MinInt, 0), plane.Of(math.MaxInt, 0), api.Turn{}, api.ErrDiffer},
		{plane.Of(1<<32, 0), plane.Of(1<<33, 0), api.Turn{}, api.ErrDiffer},
		{api.Vec{X: half}, plane.Of(0, 1), api.Turn{}, api.ErrDiffer},
		{zero, plane.Of(1, 1), api.Turn{}, api.ErrArg},
		{plane.Of(1, 1), zero, api.Turn{}, api.ErrArg},
		{zero, plane.Of(0, -1), api.Turn{}, api.ErrArg},
		{plane.Of(math.MinInt, 0), zero, api.Turn{}, api.ErrArg},
		{zero, zero, api.Turn{}, api.ErrArg},
	} {
		if got, e := plane.Align(c.a, c.b); !sameTurn(got, c.want) || e != c.e {
			t.Errorf("P5.4: Align(%v, %v) is %v, %d", c.a, c.b, got, e)
		}
	}
}

// checkAligned aligns a vector with what a turn leads it to.
func checkAligned(t *testing.T, m turn, v vec) {
	t.Helper()
	if dot(v, v).Sign() == 0 {
		return
	}
	w := rotate(m, v)
	a, b := vector(v), vector(w)
	u, e := plane.Align(a, b)
	if e != api.OK {
		t.Fatalf("P5.4: Align(%s, %s): the error is %d", show(v), show(w), e)
	}
	checkTurn(t, "P5.4", u, m, "Align", v, w)
	if !sameVec(plane.Rotate(u, a), b) {
		t.Fatalf("P5.8: Align(%s, %s) does not lead the one to the other", show(v), show(w))
	}
	again, e := plane.Align(a, plane.Rotate(turning(m), a))
	if !sameTurn(again, turning(m)) || e != api.OK {
		t.Fatalf("P5.8: Align does not find the %s of %s", show(m), show(v))
	}
	back, e := plane.Align(b, a)
	if e != api.OK || !sameTurn(back, plane.Back(u)) || !sameTurn(plane.After(u, back), plane.Still()) || !sameTurn(plane.After(back, u), plane.Still()) {
		t.Fatalf("P5.8: Align(%s, %s) and the opposite do not undo each other", show(v), show(w))
	}
}

func TestAlign(t *testing.T) {
	r := rand.New(rand.NewPCG(5, 8))
	l := edgeVecs()
	for i, m := range someTurns() {
		for j := i % 17; j < len(l); j += 17 {
			checkAligned(t, m, l[j])
		}
	}
	for range 400 {
		checkAligned(t, randomTurn(r, 20), randomVec(r, 20))
	}
	checkAligned(t, randomTurn(r, 300), randomVec(r, 400))
	checkAligned(t, turnOf(power(7, 300), power(10, 250)), randomVec(r, 900))
}

// All pairs of small vectors, most of which have different lengths or are zero.
func TestAlignOfSmallVectors(t *testing.T) {
	l := gridVecs(5)
	for _, v := range l {
		for _, w := range l {
			want := api.OK
			if dot(v, v).Sign() == 0 || dot(w, w).Sign() == 0 {
				want = api.ErrArg
			} else if dot(v, v).Cmp(dot(w, w)) != 0 {
				want = api.ErrDiffer
			}
			u, e := plane.Align(vector(v), vector(w))
			if e != want {
				t.Fatalf("P5.4: Align(%s, %s): the error is %d", show(v), show(w), e)
			}
			if e != api.OK && !sameTurn(u, api.Turn{}) {
				t.Fatalf("P5.4: Align(%s, %s) returns %s with an error", show(v), show(w), show(u))
			}
			if e == api.OK && (!plane.Valid(u) || !sameVec(plane.Rotate(u, vector(v)), vector(w))) {
				t.Fatalf("P5.8: Align(%s, %s) leads elsewhere", show(v), show(w))
			}
		}
	}
}

// Lengths that differ by very little.
func TestAlignOfNearlyEqualLengths(t *testing.T) {
	r := rand.New(rand.NewPCG(5, 9))
	for k := range 300 {
		digits := 1 + k%30
		v := randomVec(r, digits)
		w := rotate(randomTurn(r, digits), v)
		more := new(big.Rat).Add(big.NewRat(1, 1), new(big.Rat).SetFrac(big.NewInt(1), power(10, 2*digits)))
		if dot(v, v).Sign() == 0 {
			continue
		}
		for _, longer := range []vec{scale(w, more), scale(w, new(big.Rat).Neg(more))} {
			if u, e := plane.Align(vector(v), vector(longer)); e != api.ErrDiffer || !sameTurn(u, api.Turn{}) {
				t.Fatalf("P5.4: Align(%s, %s) is %s, %d", show(v), show(longer), show(u), e)
			}
		}
		if u, e := plane.Align(vector(v), api.Vec{}); e != api.ErrArg || !sameTurn(u, api.Turn{}) {
			t.Fatalf("P5.4: Align(%s, (0, 0)) is %s, %d", show(v), show(u), e)
		}
	}
}
