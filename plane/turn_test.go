package plane_test

import (
	"math"
	"math/big"
	"math/rand/v2"
	"testing"

	"sherd/api"
	"sherd/plane"
	"sherd/rat"
)

// quarters returns the turns by no, one, two and three quarters, with what each of them makes of the vector (x, y).
func quarters() ([]api.Turn, []func(x, y int) api.Vec) {
	one, minus := whole(1), below(1)
	return []api.Turn{{C: one}, {S: one}, {C: minus}, {S: minus}}, []func(x, y int) api.Vec{
		func(x, y int) api.Vec { return plane.Of(x, y) },
		func(x, y int) api.Vec { return plane.Of(-y, x) },
		func(x, y int) api.Vec { return plane.Of(-x, -y) },
		func(x, y int) api.Vec { return plane.Of(y, -x) },
	}
}

func TestQuarters(t *testing.T) {
	turns, leads := quarters()
	if got := plane.Still(); !sameTurn(got, turns[0]) {
		t.Errorf("P5.3: Still() is %v", got)
	}
	for i, u := range turns {
		if !plane.Valid(u) {
			t.Errorf("P5.3: the turn by %d quarters is not valid", i)
		}
		if got := plane.Back(u); !sameTurn(got, turns[(4-i)%4]) {
			t.Errorf("P5.3: Back of the turn by %d quarters is %v", i, got)
		}
		for x := -3; x <= 3; x++ {
			for y := -3; y <= 3; y++ {
				if got := plane.Rotate(u, plane.Of(x, y)); !sameVec(got, leads[i](x, y)) {
					t.Errorf("P5.3: the turn by %d quarters leads (%d, %d) to %v", i, x, y, got)
				}
			}
		}
		for j, w := range turns {
			if got := plane.After(u, w); !sameTurn(got, turns[(i+j)%4]) {
				t.Errorf("P5.3: After of the turns by %d and %d quarters is %v", i, j, got)
			}
			if got := plane.SameTurn(u, w); got != (i == j) {
				t.Errorf("P5.3: SameTurn of the turns by %d and %d quarters is %v", i, j, got)
			}
		}
	}
}

func TestKnownTurns(t *testing.T) {
	u := api.Turn{C: rat.Of(3, 5), S: rat.Of(4, 5)}
	v := api.Turn{C: rat.Of(-5, 13), S: rat.Of(12, 13)}
	for _, c := range []struct {
		name      string
		got, want api.Turn
	}{
		{"Back", plane.Back(u), api.Turn{C: rat.Of(3, 5), S: rat.Of(-4, 5)}},
		{"After itself", plane.After(u, u), api.Turn{C: rat.Of(-7, 25), S: rat.Of(24, 25)}},
		{"After another", plane.After(u, v), api.Turn{C: rat.Of(-63, 65), S: rat.Of(16, 65)}},
		{"After Back", plane.After(u, plane.Back(u)), plane.Still()},
		{"After Still", plane.After(u, plane.Still()), u},
	} {
		if !sameTurn(c.got, c.want) {
			t.Errorf("P5.3: %s of a turn is %v", c.name, c.got)
		}
	}
	for _, c := range []struct {
		u       api.Turn
		a, want api.Vec
	}{
		{u, plane.Of(5, 10), plane.Of(-5, 10)},
		{u, plane.Of(5, 0), plane.Of(3, 4)},
		{u, plane.Of(0, 5), plane.Of(-4, 3)},
		{u, plane.Of(-5, -10), plane.Of(5, -10)},
		{u, api.Vec{}, api.Vec{}},
		{u, plane.Of(1, 1), api.Vec{X: rat.Of(-1, 5), Y: rat.Of(7, 5)}},
		{v, plane.Of(13, 26), plane.Of(-29, 2)},
		{plane.Back(u), plane.Of(-5, 10), plane.Of(5, 10)},
		{api.Turn{S: whole(1)}, plane.Of(math.MinInt, 0), plane.Of(0, math.MinInt)},
		{api.Turn{C: below(1)}, plane.Of(math.MinInt, math.MaxInt), api.Vec{X: whole(854775808, 223372036, 9), Y: below(854775807, 223372036, 9)}},
	} {
		if got := plane.Rotate(c.u, c.a); !sameVec(got, c.want) {
			t.Errorf("P5.3: Rotate(%v, %v) is %v", c.u, c.a, got)
		}
	}
}

func TestSameTurn(t *testing.T) {
	l := someTurns()
	for _, u := range l {
		for _, w := range l {
			want := u.c.Cmp(w.c) == 0 && u.s.Cmp(w.s) == 0
			if got := plane.SameTurn(turning(u), turning(w)); got != want {
				t.Fatalf("P5.3: SameTurn of the %s and the %s is %v", show(u), show(w), got)
			}
		}
	}
}

func TestInvalidTurns(t *testing.T) {
	one, three, four, five := api.Int{D: []int{1}}, api.Int{D: []int{3}}, api.Int{D: []int{4}}, api.Int{D: []int{5}}
	for reason, l := range map[string][]api.Turn{
		"C C + S S is 0":      {{}},
		"C C + S S is 1/4":    {{C: rat.Of(1, 2)}, {S: rat.Of(-1, 2)}},
		"C C + S S is 1/2":    {{C: rat.Of(1, 2), S: rat.Of(1, 2)}, {C: rat.Of(-1, 2), S: rat.Of(1, 2)}},
		"C + S is 1":          {{C: rat.Of(1, 3), S: rat.Of(2, 3)}, {C: whole(2), S: below(1)}},
		"C C - S S is 1":      {{C: rat.Of(5, 3), S: rat.Of(4, 3)}, {C: rat.Of(-13, 5), S: rat.Of(12, 5)}, {C: rat.Of(4, 3), S: rat.Of(5, 3)}},
		"C C + S S is 2":      {{C: whole(1), S: whole(1)}, {C: whole(1), S: below(1)}},
		"C C + S S is 4":      {{C: whole(2)}, {S: below(2)}},
		"C C + S S is near 1": {{C: rat.Of(999999999, 1000000000)}, {C: rat.Of(3, 5), S: rat.Of(800000001, 1000000000)}, {C: rat.Of(665857, 941664), S: rat.Of(665857, 941664)}, {C: rat.Of(3, 5), S: rat.Of(3, 5)}, {C: rat.Of(3, 5), S: rat.Of(4, 7)}},
		"C is not canonical": {
			{C: api.Rat{P: one, Q: one}}, {C: api.Rat{P: api.Int{Neg: true, D: []int{1}}, Q: one}}, {C: api.Rat{P: five, Q: five}},
			{C: api.Rat{P: api.Int{D: []int{6}}, Q: api.Int{D: []int{10}}}, S: rat.Of(4, 5)},
			{C: api.Rat{P: api.Int{Neg: true, D: []int{3}}, Q: api.Int{Neg: true, D: []int{5}}}, S: rat.Of(4, 5)},
			{C: api.Rat{P: three, Q: api.Int{Neg: true, D: []int{5}}}, S: rat.Of(4, 5)},
			{C: whole(1, 0)}, {C: whole(1, 0, 0)}, {C: whole(-1)}, {C: whole(0), S: whole(1)}, {C: below(), S: whole(1)},
			{C: api.Rat{Q: one}, S: whole(1)}, {C: api.Rat{Q: three}, S: whole(1)}, {C: api.Rat{P: one, Q: api.Int{D: []int{0}}}}, {C: api.Rat{P: one, Q: api.Int{Neg: true}}},
			{C: whole(api.Base)}, {C: whole(1-2*api.Base, 2)}, {C: whole(1-api.Base, 1)}, {C: whole(math.MinInt, math.MaxInt)},
		},
		"S is not canonical": {
			{S: api.Rat{P: one, Q: one}}, {S: api.Rat{P: five, Q: five}},
			{C: rat.Of(3, 5), S: api.Rat{P: api.Int{D: []int{8}}, Q: api.Int{D: []int{10}}}},
			{C: rat.Of(3, 5), S: api.Rat{P: four, Q: api.Int{Neg: true, D: []int{5}}}},
			{S: whole(1, 0)}, {S: whole(-1)}, {C: whole(1), S: whole(0)}, {C: whole(1), S: below()},
			{C: whole(1), S: api.Rat{Q: one}}, {C: whole(1), S: api.Rat{Q: three}}, {C: whole(1), S: api.Rat{Q: api.Int{D: []int{0}}}},
			{S: whole(api.Base)}, {S: whole(1-api.Base, 1)}, {C: whole(1), S: whole(math.MinInt, math.MaxInt)},
		},
		"both are not canonical": {{C: api.Rat{P: three, Q: api.Int{D: []int{0}}}, S: api.Rat{P: four, Q: api.Int{D: []int{0}}}}, {C: api.Rat{P: api.Int{D: []int{6}}, Q: api.Int{D: []int{10}}}, S: api.Rat{P: api.Int{D: []int{8}}, Q: api.Int{D: []int{10}}}}, {C: whole(0), S: below()}},
	} {
		for _, u := range l {
			if plane.Valid(u) {
				t.Errorf("P5.3: %v is valid, although %s", u, reason)
			}
		}
	}
}

func TestValidTurns(t *testing.T) {
	r := rand.New(rand.NewPCG(5, 6))
	l := someTurns()
	for range 300 {
		l = append(l, randomTurn(r, 20))
	}
	l = append(l, randomTurn(r, 600), turnOf(power(10, 500), power(3, 900)))
	more := big.NewRat(1, 1000000007)
	for _, u := range l {
		if !plane.Valid(turning(u)) {
			t.Fatalf("P5.3: the %s is not valid", show(u))
		}
		for _, w := range []turn{
			{u.c, new(big.Rat).Add(u.s, more)}, {new(big.Rat).Sub(u.c, more), u.s}, {times(u.c, big.NewRat(2, 1)), times(u.s, big.NewRat(2, 1))},
			{new(big.Rat).Add(u.c, u.c), u.s}, {u.c, new(big.Rat).Add(u.s, big.NewRat(1, 1))},
		} {
			length := new(big.Rat).Add(times(w.c, w.c), times(w.s, w.s))
			if got := plane.Valid(turning(w)); got != (length.Cmp(big.NewRat(1, 1)) == 0) {
				t.Fatalf("P5.3: Valid of the %s is %v", show(w), got)
			}
		}
	}
}

// checkTurns compares what turns lead vectors to with the model, and with the properties of turns.
func checkTurns(t *testing.T, m, n, o turn, v, w vec) {
	t.Helper()
	u, x, y, a, b := turning(m), turning(n), turning(o), vector(v), vector(w)
	c, d, back := plane.Rotate(u, a), plane.Rotate(u, b), plane.Back(u)
	checkVec(t, "P5.3", c, rotate(m, v), "Rotate", m, v)
	checkTurn(t, "P5.3", back, turn{m.c, new(big.Rat).Neg(m.s)}, "Back", m)
	end := rotate(m, vec{n.c, n.s})
	both := plane.After(u, x)
	checkTurn(t, "P5.3", both, turn{end.x, end.y}, "After", m, n)
	if !sameVec(plane.Rotate(both, a), plane.Rotate(u, plane.Rotate(x, a))) {
		t.Fatalf("P5.3: the turn after another one leads elsewhere: %s, %s, %s", show(m), show(n), show(v))
	}
	if !sameVec(plane.Rotate(back, c), a) || !sameVec(plane.Rotate(u, plane.Rotate(back, a)), a) {
		t.Fatalf("P5.3: Back does not undo the %s", show(m))
	}
	if !sameVec(plane.Rotate(plane.Still(), a), a) {
		t.Fatalf("P5.3: Still leads %s elsewhere", show(v))
	}
	if !identical(plane.Dot(c, d), plane.Dot(a, b)) || !identical(plane.Cross(c, d), plane.Cross(a, b)) {
		t.Fatalf("P5.6: the %s changes products of %s and %s", show(m), show(v), show(w))
	}
	if !sameTurn(plane.After(both, y), plane.After(u, plane.After(x, y))) {
		t.Fatalf("P5.7: After is not associative: %s, %s, %s", show(m), show(n), show(o))
	}
	if !sameTurn(plane.After(u, back), plane.Still()) || !sameTurn(plane.After(back, u), plane.Still()) || !sameTurn(plane.Back(back), u) {
		t.Fatalf("P5.7: Back of the %s is no inverse", show(m))
	}
	if !plane.SameTurn(u, turning(m)) || plane.SameTurn(u, x) != (m.c.Cmp(n.c) == 0 && m.s.Cmp(n.s) == 0) {
		t.Fatalf("P5.3: SameTurn of the %s and the %s", show(m), show(n))
	}
}

func TestTurns(t *testing.T) {
	r := rand.New(rand.NewPCG(5, 7))
	turns, l := someTurns(), edgeVecs()
	for i, m := range turns {
		for j := i % 3; j < len(turns); j += 3 {
			checkTurns(t, m, turns[j], turns[r.IntN(len(turns))], l[(5*i+j)%len(l)], l[r.IntN(len(l))])
		}
	}
	for range 300 {
		checkTurns(t, randomTurn(r, 15), randomTurn(r, 15), randomTurn(r, 15), randomVec(r, 20), randomVec(r, 20))
	}
	checkTurns(t, randomTurn(r, 250), randomTurn(r, 250), randomTurn(r, 250), randomVec(r, 400), randomVec(r, 400))
	checkTurns(t, turnOf(power(7, 300), power(10, 250)), turnOf(power(10, 300), power(3, 300)), randomTurn(r, 9), randomVec(r, 900), randomVec(r, 900))
}
