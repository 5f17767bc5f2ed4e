package plane_test

import (
	"math/big"
	"math/rand/v2"
	"testing"

	"sherd/api"
	"sherd/plane"
	"sherd/rat"
)

func TestKnownPlaces(t *testing.T) {
	zero, still := api.Vec{}, plane.Still()
	p := api.Place{Turn: api.Turn{S: whole(1)}, At: plane.Of(1, 2)}
	q := api.Place{Turn: api.Turn{C: rat.Of(3, 5), S: rat.Of(4, 5)}, At: plane.Of(-7, 1)}
	for _, c := range []struct {
		name    string
		p       api.Place
		a, want api.Vec
	}{
		{"a quarter turn at (1, 2)", p, plane.Of(3, 0), plane.Of(1, 5)},
		{"a quarter turn at (1, 2)", p, zero, plane.Of(1, 2)},
		{"a quarter turn at (1, 2)", p, plane.Of(0, 3), plane.Of(-2, 2)},
		{"a turn at (-7, 1)", q, plane.Of(5, 10), plane.Of(-12, 11)},
		{"a turn at (-7, 1)", q, plane.Of(1, 0), api.Vec{X: rat.Of(-32, 5), Y: rat.Of(9, 5)}},
		{"no turn at (4, -5)", api.Place{Turn: still, At: plane.Of(4, -5)}, plane.Of(1, 1), plane.Of(5, -4)},
		{"no turn at (0, 0)", api.Place{Turn: still}, plane.Of(1, -9), plane.Of(1, -9)},
		{"half a turn at (0, 0)", api.Place{Turn: api.Turn{C: below(1)}}, plane.Of(1, -9), plane.Of(-1, 9)},
		{"half a turn at (4, 4)", api.Place{Turn: api.Turn{C: below(1)}, At: plane.Of(4, 4)}, plane.Of(3, 2), plane.Of(1, 2)},
		{"the inverse of a quarter turn at (1, 2)", plane.Inverse(p), plane.Of(1, 5), plane.Of(3, 0)},
	} {
		if got := plane.Put(c.p, c.a); !sameVec(got, c.want) {
			t.Errorf("P5.5: %s leads %v to %v", c.name, c.a, got)
		}
	}
	for _, c := range []struct {
		name      string
		got, want api.Place
	}{
		{"Inverse of a quarter turn at (1, 2)", plane.Inverse(p), api.Place{Turn: api.Turn{S: below(1)}, At: plane.Of(-2, 1)}},
		{"Inverse of no turn at (4, -5)", plane.Inverse(api.Place{Turn: still, At: plane.Of(4, -5)}), api.Place{Turn: still, At: plane.Of(-4, 5)}},
		{"Inverse of a turn at (0, 0)", plane.Inverse(api.Place{Turn: q.Turn}), api.Place{Turn: plane.Back(q.Turn)}},
		{"Inverse of no turn at (0, 0)", plane.Inverse(api.Place{Turn: still}), api.Place{Turn: still}},
		{"Compose of both", plane.Compose(p, q), api.Place{Turn: api.Turn{C: rat.Of(-4, 5), S: rat.Of(3, 5)}, At: plane.Of(0, -5)}},
		{"Compose of both in the other order", plane.Compose(q, p), api.Place{Turn: api.Turn{C: rat.Of(-4, 5), S: rat.Of(3, 5)}, At: plane.Of(-8, 3)}},
		{"Compose with no turn at (0, 0)", plane.Compose(q, api.Place{Turn: still}), q},
		{"Compose of no turn at (0, 0)", plane.Compose(api.Place{Turn: still}, q), q},
	} {
		if !samePlace(c.got, c.want) {
			t.Errorf("P5.5: %s is %v", c.name, c.got)
		}
	}
}

// checkPlaces compares what placements lead vectors to with the model, and with the properties of placements.
func checkPlaces(t *testing.T, l, m, n place, v vec) {
	t.Helper()
	p, q, o, a := placing(l), placing(m), placing(n), vector(v)
	checkVec(t, "P5.5", plane.Put(p, a), put(l, v), "Put", l, v)
	end := rotate(l.turn, vec{m.turn.c, m.turn.s})
	both := plane.Compose(p, q)
	checkPlace(t, "P5.5", both, place{turn{end.x, end.y}, put(l, m.at)}, "Compose", l, m)
	if !sameVec(plane.Put(both, a), plane.Put(p, plane.Put(q, a))) {
		t.Fatalf("P5.5: Compose leads elsewhere: %s, %s, %s", show(l), show(m), show(v))
	}
	back := turn{l.turn.c, new(big.Rat).Neg(l.turn.s)}
	undo := plane.Inverse(p)
	checkPlace(t, "P5.5", undo, place{back, rotate(back, scale(l.at, big.NewRat(-1, 1)))}, "Inverse", l)
	if !sameVec(plane.Put(undo, plane.Put(p, a)), a) || !sameVec(plane.Put(p, plane.Put(undo, a)), a) {
		t.Fatalf("P5.5: Inverse of the %s does not undo it for %s", show(l), show(v))
	}
	if !samePlace(plane.Compose(both, o), plane.Compose(p, plane.Compose(q, o))) {
		t.Fatalf("P5.7: Compose is not associative: %s, %s, %s", show(l), show(m), show(n))
	}
	none := api.Place{Turn: plane.Still()}
	if !samePlace(plane.Compose(p, undo), none) || !samePlace(plane.Compose(undo, p), none) || !samePlace(plane.Inverse(undo), p) {
		t.Fatalf("P5.7: Inverse of the %s is none", show(l))
	}
	if !samePlace(plane.Compose(p, none), p) || !samePlace(plane.Compose(none, p), p) {
		t.Fatalf("P5.5: Compose with what leads each vector to itself changes the %s", show(l))
	}
}

func TestPlaces(t *testing.T) {
	r := rand.New(rand.NewPCG(5, 10))
	places, l := somePlaces(), edgeVecs()
	for _, p := range places {
		for range 4 {
			checkPlaces(t, p, places[r.IntN(len(places))], places[r.IntN(len(places))], l[r.IntN(len(l))])
		}
		checkPlaces(t, p, p, p, pair(0, 0))
	}
	for range 200 {
		checkPlaces(t, randomPlace(r, 12), randomPlace(r, 12), randomPlace(r, 12), randomVec(r, 15))
	}
	checkPlaces(t, randomPlace(r, 200), randomPlace(r, 200), randomPlace(r, 200), randomVec(r, 300))
	checkPlaces(t, place{turnOf(power(7, 150), power(10, 120)), randomVec(r, 500)}, randomPlace(r, 100), randomPlace(r, 9), randomVec(r, 500))
}

func TestSidesStayAfterPut(t *testing.T) {
	r := rand.New(rand.NewPCG(5, 11))
	places, l := somePlaces(), edgeVecs()
	for k := range 2000 {
		u, v, w := l[r.IntN(len(l))], l[r.IntN(len(l))], l[r.IntN(len(l))]
		switch k % 4 {
		case 0:
			w = add(u, scale(sub(v, u), random(r, 3)))
		case 1:
			u, v, w = randomVec(r, 10), randomVec(r, 10), randomVec(r, 10)
		}
		p := placing(places[r.IntN(len(places))])
		got := plane.Side(plane.Put(p, vector(u)), plane.Put(p, vector(v)), plane.Put(p, vector(w)))
		if got != side(u, v, w) || got != plane.Side(vector(u), vector(v), vector(w)) {
			t.Fatalf("P5.6: Side(%s, %s, %s) becomes %d", show(u), show(v), show(w), got)
		}
	}
}
