package sweep_test

import (
	"math"
	"math/big"
	"math/rand/v2"
	"testing"

	"sherd/api"
	"sherd/plane"
	"sherd/rat"
	"sherd/sweep"
)

func TestKnownChecks(t *testing.T) {
	square := shapes()["square"]
	right, left, up, down := spot{2, 0}, spot{-2, 0}, spot{0, 2}, spot{0, -2}
	zero, one, half, little := api.Rat{}, rat.Of(1, 1), rat.Of(1, 2), rat.Of(1, 1000000)
	near, touching, aside := moved(square, 4, 0), moved(square, 2, 0), moved(square, 4, 3)
	for _, c := range []struct {
		name           string
		b              []spot
		v              spot
		e              api.Rat
		first, second  spot
		until          api.Rat
		untilOne, ever bool
	}{
		// Until 1, or without an end.
		{"until it touches", near, spot{2, 0}, zero, right, right, one, true, false},
		{"until it touches, at 0", near, spot{2, 0}, zero, right, right, zero, true, false},
		{"until it touches, at 1/2", near, spot{2, 0}, zero, right, right, half, true, false},
		{"until it is stopped", near, spot{2, 0}, little, right, right, one, false, false},
		{"back", near, spot{-2, 0}, one, right, right, one, true, true},
		{"back, at 0", near, spot{-2, 0}, one, right, right, zero, true, true},
		{"back, after 1", near, spot{-2, 0}, one, right, right, rat.Of(2, 1), false, true},
		{"back, just after 1", near, spot{-2, 0}, one, right, right, rat.Add(one, little), false, true},
		{"back, before 0", near, spot{-2, 0}, one, right, right, rat.Of(-1, 2), false, false},
		{"back, just before 0", near, spot{-2, 0}, one, right, right, rat.Sub(zero, little), false, false},
		{"back, by the wrong direction", near, spot{-2, 0}, one, left, left, zero, false, false},
		{"back, by the wrong second direction", near, spot{-2, 0}, one, right, left, zero, false, false},
		{"back, by the wrong first direction", near, spot{-2, 0}, one, left, right, zero, false, false},
		{"with a product of 0", touching, spot{0, 3}, zero, right, right, half, true, true},
		{"with a product of 0, by more", touching, spot{0, 3}, little, right, right, half, false, false},
		{"at rest", near, spot{}, one, right, right, half, true, true},
		{"at rest, too near", near, spot{}, rat.Add(rat.Of(2, 1), little), right, right, half, false, false},
		// Directions that are (0, 0).
		{"no directions", near, spot{}, zero, spot{}, spot{}, zero, false, false},
		{"no first direction", near, spot{-2, 0}, one, spot{}, right, zero, false, false},
		{"no second direction", near, spot{-2, 0}, one, right, spot{}, zero, false, false},
		{"no first direction, overlapping by a negative margin", square, spot{}, rat.Of(-9, 1), spot{}, up, zero, false, false},
		{"no second direction, overlapping by a negative margin", square, spot{}, rat.Of(-9, 1), up, spot{}, zero, false, false},
		{"overlapping by a negative margin", square, spot{}, rat.Of(-2, 1), up, down, zero, true, true},
		// Two directions that take over at one time only.
		{"past a corner", near, spot{4, -4}, zero, right, up, half, true, true},
		{"past a corner, too early", near, spot{4, -4}, zero, right, up, rat.Sub(half, little), false, false},
		{"past a corner, too late", near, spot{4, -4}, zero, right, up, rat.Add(half, little), false, false},
		{"past a corner, at 0", near, spot{4, -4}, zero, right, up, zero, false, false},
		{"past a corner, at 1", near, spot{4, -4}, zero, right, up, one, false, false},
		{"past a corner, the other way about", near, spot{4, -4}, zero, up, right, half, false, false},
		{"past a corner, the first direction only", near, spot{4, -4}, zero, right, right, half, false, false},
		{"past a corner, the second direction only", near, spot{4, -4}, zero, up, up, half, false, false},
		{"past a corner, by more", near, spot{4, -4}, little, right, up, half, false, false},
		{"past a corner after 1", near, spot{1, -1}, zero, right, up, rat.Of(2, 1), false, true},
		{"past a corner just at 1", near, spot{2, -2}, zero, right, up, one, true, true},
		// Two directions that take over within some time.
		{"past it, when the second one begins", near, spot{4, -8}, zero, right, up, rat.Of(1, 4), true, true},
		{"past it, when the first one ceases", near, spot{4, -8}, zero, right, up, half, true, true},
		{"past it, between", near, spot{4, -8}, zero, right, up, rat.Of(3, 8), true, true},
		{"past it, before", near, spot{4, -8}, zero, right, up, rat.Sub(rat.Of(1, 4), little), false, false},
		{"past it, after", near, spot{4, -8}, zero, right, up, rat.Add(half, little), false, false},
		// Directions that are none of Dirs.
		{"longer directions", near, spot{4, -8}, zero, spot{math.MaxInt, 0}, spot{0, math.MaxInt}, half, true, true},
		{"other directions", near, spot{4, -8}, zero, spot{5, 1}, spot{1, 5}, rat.Of(5, 12), true, true},
		{"other directions, when the second one begins", near, spot{4, -8}, zero, spot{5, 1}, spot{1, 5}, rat.Of(2, 9), true, true},
		{"other directions, before", near, spot{4, -8}, zero, spot{5, 1}, spot{1, 5}, rat.Sub(rat.Of(2, 9), little), false, false},
		{"other directions, when the first one ceases", near, spot{4, -8}, zero, spot{5, 1}, spot{1, 5}, rat.Of(2, 3), true, true},
		{"other directions, after", near, spot{4, -8}, zero, spot{5, 1}, spot{1, 5}, rat.Add(rat.Of(2, 3), little), false, false},
		{"a direction between both", near, spot{4, -8}, zero, spot{1, 1}, spot{1, 1}, half, true, true},
		{"a direction between both, by more", near, spot{4, -8}, little, spot{1, 1}, spot{1, 1}, half, false, false},
		// From 0 to 1, but not from 0 on, and the other way about.
		{"in time", aside, spot{1, 1}, zero, right, right, one, true, false},
		{"in time, by two directions", aside, spot{1, 1}, zero, right, up, half, true, false},
		{"for ever, but not from 0 on", near, spot{-2, 0}, rat.Of(3, 1), right, right, zero, false, false},
		{"from 1/2 on", near, spot{-2, 0}, rat.Of(3, 1), right, right, half, false, false},
		{"not yet at 1", near, spot{1, -1}, zero, right, up, rat.Of(3, 2), false, false},
	} {
		for _, x := range []struct {
			name  string
			check func(a, b []api.Vec, v api.Vec, e api.Rat, g api.Guard) api.Errno
			shown bool
		}{{"P9.2: Check", sweep.Check, c.untilOne}, {"P9.4: CheckAway", sweep.CheckAway, c.ever}} {
			want := api.ErrProof
			if x.shown {
				want = api.OK
			}
			g := api.Guard{First: plane.Of(c.first.x, c.first.y), Second: plane.Of(c.second.x, c.second.y), Until: c.until}
			if got := x.check(corners(square), corners(c.b), plane.Of(c.v.x, c.v.y), c.e, g); got != want {
				t.Errorf("%s is %d: %s", x.name, got, c.name)
			}
		}
	}
}

// wrong returns numbers that are not valid, which stand for v or would do, if they were read carelessly.
func wrong(v int) []api.Rat {
	digits := func(d ...int) api.Int { return api.Int{D: d} }
	negative := func(d ...int) api.Int { return api.Int{Neg: true, D: d} }
	return []api.Rat{
		{P: digits(v), Q: digits(1)},
		{P: digits(v, 0), Q: api.Int{}},
		{P: digits(2 * v), Q: digits(2)},
		{P: negative(v), Q: negative(1)},
		{P: negative(3 * v), Q: negative(3)},
		{P: digits(v), Q: digits(0)},
		{P: digits(v), Q: api.Int{Neg: true}},
		{P: digits(v), Q: digits(7, 0)},
		{P: digits(v+api.Base, 1)},
		{P: digits(v-api.Base, 1)},
		{P: digits(-v - 1)},
		{P: digits(math.MinInt)},
		{P: digits(math.MaxInt)},
		{P: negative()},
		{P: digits(0)},
	}
}

func TestWrongNumbers(t *testing.T) {
	square := shapes()["square"]
	a, b, v, e := corners(square), corners(moved(square, 4, 0)), plane.Of(-1, 0), rat.Of(-99, 1)
	fine := api.Guard{First: plane.Of(1, 1), Second: plane.Of(1, 1), Until: rat.Of(1, 1)}
	if sweep.Check(a, b, v, e, fine) != api.OK || sweep.CheckAway(a, b, v, e, fine) != api.OK {
		t.Fatal("P9.2, P9.4: a guard is refused")
	}
	for n, x := range wrong(1) {
		for k := range 5 {
			g := fine
			*[]*api.Rat{&g.First.X, &g.First.Y, &g.Second.X, &g.Second.Y, &g.Until}[k] = x
			if got := sweep.Check(a, b, v, e, g); got != api.ErrProof {
				t.Errorf("P9.2: Check of a guard whose number %d is the wrong number %d is %d", k, n, got)
			}
			if got := sweep.CheckAway(a, b, v, e, g); got != api.ErrProof {
				t.Errorf("P9.4: CheckAway of a guard whose number %d is the wrong number %d is %d", k, n, got)
			}
			if got := sweep.CheckAll([][]api.Vec{a}, [][]api.Vec{b, b}, v, e, []api.Guard{fine, g}); got != api.ErrProof {
				t.Errorf("P9.5: CheckAll of a guard whose number %d is the wrong number %d is %d", k, n, got)
			}
		}
	}
}

// someGuard returns a guard of any directions, or one that nearly shows that shapes stay apart, or does so.
func someGuard(r *rand.Rand, c scene) guard {
	l := dirs(c.a, c.b)
	if r.IntN(3) == 0 {
		l = append(l, randomVec(r, 2), randomVec(r, 2), randomVec(r, 2), vec{new(big.Rat), new(big.Rat)})
	}
	g := guard{l[r.IntN(len(l))], l[r.IntN(len(l))], quotient(whole(r.IntN(7)-1), whole(4))}
	if h := c.free(); h != nil && r.IntN(2) == 0 {
		g = *h
	} else if h := c.away(); h != nil && r.IntN(2) == 0 {
		g = *h
	}
	switch r.IntN(8) {
	case 0:
		g.until = plus(g.until, small(r.IntN(30)))
	case 1:
		g.until = less(g.until, small(r.IntN(30)))
	case 2:
		g.first = scale(g.first, random(r, 5))
	case 3:
		g.second = scale(g.second, random(r, 5))
	case 4:
		g.second = add(g.second, scale(g.first, random(r, 2)))
	case 5:
		g.first = add(g.first, scale(randomVec(r, 2), small(r.IntN(20))))
	}
	return g
}

func TestSomeGuards(t *testing.T) {
	r := rand.New(rand.NewPCG(9, 4))
	counts := map[string]int{}
	for k := range 300 {
		c := someScene(r, frameOf(r, k))
		if k%2 == 0 {
			c = c.by(random(r, 2))
		} else if k%4 == 1 {
			c = c.by(c.widest(k%8 == 1))
		}
		x := c.given()
		for range 4 {
			g := someGuard(r, c)
			for _, y := range []struct {
				name string
				got  api.Errno
				want bool
			}{
				{"P9.2: Check", sweep.Check(x.a, x.b, x.v, x.e, g.given()), c.shown(g, false)},
				{"P9.4: CheckAway", sweep.CheckAway(x.a, x.b, x.v, x.e, g.given()), c.shown(g, true)},
			} {
				if (y.got == api.OK) != y.want || y.got != api.OK && y.got != api.ErrProof {
					t.Fatalf("%s of %s is %d: %s", y.name, show(g.given()), y.got, x)
				}
				if y.want {
					counts[y.name]++
				}
			}
		}
	}
	if counts["P9.2: Check"] < 90 || counts["P9.4: CheckAway"] < 90 {
		t.Error("too few guards are accepted:", counts)
	}
}
