package sweep_test

import (
	"math/big"
	"math/rand/v2"
	"testing"

	"sherd/apart"
	"sherd/api"
	"sherd/plane"
	"sherd/rat"
	"sherd/sweep"
)

// moved returns a at a time.
func (g given) moved(time api.Rat) []api.Vec {
	var l []api.Vec
	for _, p := range g.a {
		l = append(l, plane.Add(p, plane.Scale(g.v, time)))
	}
	return l
}

// apartAt reports whether the shapes are apart by the margin at a time.
func (g given) apartAt(time api.Rat) bool {
	_, found := apart.Find(g.moved(time), g.b, g.e)
	return found
}

func (g given) stays() bool {
	_, found := sweep.Free(g.a, g.b, g.v, g.e)
	return found
}

func (g given) staysEver() bool {
	_, found := sweep.Away(g.a, g.b, g.v, g.e)
	return found
}

func opposite(v api.Vec) api.Vec { return api.Vec{X: rat.Neg(v.X), Y: rat.Neg(v.Y)} }

// timesNear returns a time, the ones very little before and after it, and those of 0 and 1, if they are from 0 on and, but for a motion without an end, up to 1.
func timesNear(time api.Rat, k int, ever bool) []api.Rat {
	var l []api.Rat
	for _, s := range []api.Rat{time, rat.Sub(time, number(small(k))), rat.Add(time, number(small(k))), rat.Of(0, 1), rat.Of(1, 1)} {
		if rat.Sign(s) >= 0 && (ever || rat.Compare(s, rat.Of(1, 1)) <= 0) {
			l = append(l, s)
		}
	}
	return l
}

// P9.6: whatever guard is accepted, the shapes are apart at each time.
func TestAllTheTime(t *testing.T) {
	r := rand.New(rand.NewPCG(9, 6))
	counts := map[bool]int{}
	for k := range 150 {
		c := someScene(r, frameOf(r, k))
		ever := k%2 == 0
		c = c.by(less(c.widest(ever), quotient(whole(r.IntN(3)), whole(4))))
		x := c.given()
		g := someGuard(r, c).given()
		check := sweep.Check
		if ever {
			check = sweep.CheckAway
		}
		if check(x.a, x.b, x.v, x.e, g) != api.OK {
			continue
		}
		counts[ever]++
		l := timesNear(g.Until, 1+k%30, ever)
		for range 4 {
			l = append(l, rat.Of(r.IntN(101), 100))
		}
		if ever {
			l = append(l, rat.Of(r.IntN(1000), 7), rat.Of(1<<60, 1))
		}
		for _, time := range l {
			if !x.apartAt(time) {
				t.Fatalf("P9.6: the guard %s is accepted, but at %s the shapes are not apart: %s", show(g), show(time), x)
			}
		}
	}
	if counts[true] < 20 || counts[false] < 20 {
		t.Error("too few guards are accepted:", counts)
	}
}

// P9.7 for one scene.
func checkExact(t *testing.T, r *rand.Rand, x given, k int) {
	t.Helper()
	zero, one := rat.Of(0, 1), rat.Of(1, 1)
	low, high, hit := sweep.Hit(x.a, x.b, x.v, x.e)
	l := append(timesNear(low, k, false), timesNear(high, k, false)...)
	middle := rat.Mul(rat.Add(low, high), rat.Of(1, 2))
	l = append(l, middle, rat.Of(r.IntN(101), 100), rat.Of(r.IntN(101), 100))
	for _, time := range l {
		before, after := rat.Compare(time, low) < 0, rat.Compare(time, high) > 0
		within := rat.Compare(time, low) > 0 && rat.Compare(time, high) < 0
		inner := !rat.Same(time, zero) && !rat.Same(time, one)
		switch got := x.apartAt(time); {
		case !hit && !got:
			t.Fatalf("P9.7: there are no times of Hit, but at %s the shapes are not apart: %s", show(time), x)
		case hit && (before || after || !within && inner) && !got:
			t.Fatalf("P9.7: the times of Hit are from %s to %s, but at %s the shapes are not apart: %s", show(low), show(high), show(time), x)
		case hit && within && got:
			t.Fatalf("P9.7: the times of Hit are from %s to %s, but at %s the shapes are apart: %s", show(low), show(high), show(time), x)
		}
	}
}

func TestExactHits(t *testing.T) {
	r := rand.New(rand.NewPCG(9, 7))
	hits := 0
	for k := range 200 {
		c := someScene(r, frameOf(r, k))
		switch k % 4 {
		case 1:
			c = c.by(random(r, 2))
		case 2:
			c = c.by(plus(c.widest(false), quotient(whole(r.IntN(3)), whole(50))))
		case 3:
			c = c.by(plus(c.widest(false), small(10)))
		}
		x := c.given()
		checkExact(t, r, x, 1+k%30)
		if low, high, _ := sweep.Hit(x.a, x.b, x.v, x.e); rat.Sign(low) > 0 && rat.Compare(high, rat.Of(1, 1)) < 0 {
			hits++
		}
	}
	if hits < 15 {
		t.Error("too few times of Hit are between 0 and 1:", hits)
	}
}

func TestBack(t *testing.T) {
	r := rand.New(rand.NewPCG(9, 8))
	one := rat.Of(1, 1)
	for k := range 100 {
		c := someScene(r, frameOf(r, k))
		if k%2 == 0 {
			c = c.by(plus(c.widest(false), times(whole(k%3-1), small(k))))
		}
		x := c.given()
		stay := x.stays()
		if back := (given{x.moved(one), x.b, opposite(x.v), x.e}); back.stays() != stay {
			t.Fatalf("P9.8: Free returns %v, but not while a moves back: %s", stay, x)
		}
		if other := (given{x.b, x.a, opposite(x.v), x.e}); other.stays() != stay {
			t.Fatalf("P9.8: Free returns %v, but not while b moves: %s", stay, x)
		}
		low, high, _ := sweep.Hit(x.a, x.b, x.v, x.e)
		first, last, hit := sweep.Hit(x.moved(one), x.b, opposite(x.v), x.e)
		if hit == stay || hit && !(rat.Same(first, rat.Sub(one, high)) && rat.Same(last, rat.Sub(one, low))) {
			t.Fatalf("P9.8: the times of Hit are from %s to %s, but, while a moves back, from %s to %s: %s", show(low), show(high), show(first), show(last), x)
		}
		if other := (given{x.b, x.a, opposite(x.v), x.e}); other.staysEver() != x.staysEver() {
			t.Fatalf("P9.8: whether they stay apart from 0 on changes while b moves: %s", x)
		}
	}
}

func TestLesserMargins(t *testing.T) {
	r := rand.New(rand.NewPCG(9, 9))
	counts := map[bool]int{}
	for k := range 100 {
		c := someScene(r, frameOf(r, k))
		if k%2 == 0 {
			c = c.by(c.widest(k%4 == 0))
		} else {
			c = c.by(random(r, 2))
		}
		x, y := c.given(), c.by(less(c.e, []*big.Rat{small(k), size(random(r, 2)), whole(9)}[k%3])).given()
		if x.stays() && !y.stays() {
			t.Fatalf("P9.9: they stay apart by %s, but not by the lesser margin %s: %s", show(x.e), show(y.e), x)
		}
		if x.staysEver() && !y.staysEver() {
			t.Fatalf("P9.9: they stay apart from 0 on by %s, but not by the lesser margin %s: %s", show(x.e), show(y.e), x)
		}
		if counts[x.staysEver()]++; !x.staysEver() {
			continue
		}
		for _, m := range []*big.Rat{small(k), whole(1), size(random(r, 5)), whole(1000000)} {
			if z := (given{x.a, x.b, plane.Scale(x.v, number(m)), x.e}); m.Sign() > 0 && !(z.stays() && z.staysEver()) {
				t.Fatalf("P9.9: they stay apart from 0 on, but not for %s times as much: %s", show(m), x)
			}
		}
	}
	if counts[true] < 30 || counts[false] < 10 {
		t.Error("too few shapes stay apart from 0 on, or too many:", counts)
	}
}

// What stays apart, measured by the polygon of all differences: at no time are the shapes nearer than the greatest margin, and at some time they are as near.
func TestDistances(t *testing.T) {
	r := rand.New(rand.NewPCG(9, 10))
	for k := range 60 {
		c := someScene(r, frameOf(r, k))
		exact := c.widest(false)
		c = c.by(exact)
		x := c.given()
		if !x.stays() {
			t.Fatalf("P9.1: they do not stay apart by the greatest margin: %s", x)
		}
		for range 5 {
			time := quotient(whole(r.IntN(101)), whole(100))
			if got := distance(c.at(time), c.b); got.Cmp(exact) < 0 {
				t.Fatalf("P9.1: at %s the distance is %s: %s", show(time), show(got), x)
			}
		}
		low, high := c.by(plus(exact, small(40))).hit()
		if got := distance(c.at(quotient(plus(low, high), whole(2))), c.b); less(got, exact).Cmp(small(40)) >= 0 {
			t.Fatalf("P9.3: between %s and %s the distance is %s: %s", show(low), show(high), show(got), x)
		}
	}
}
