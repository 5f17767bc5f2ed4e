package sweep_test

import (
	"math"
	"math/big"
	"math/rand/v2"
	"testing"

	"sherd/api"
	"sherd/plane"
	"sherd/rat"
	"sherd/sweep"
)

// given is a scene as the program takes it.
type given struct {
	a, b []api.Vec
	v    api.Vec
	e    api.Rat
}

func (c scene) given() given { return given{vectors(c.a), vectors(c.b), vector(c.v), number(c.e)} }

func (g given) String() string {
	return show(g.a) + " by " + show(g.v) + " past " + show(g.b) + ", margin " + show(g.e)
}

func (g guard) given() api.Guard {
	return api.Guard{First: vector(g.first), Second: vector(g.second), Until: number(g.until)}
}

func sameGuard(g, h api.Guard) bool {
	return sameVec(g.First, h.First) && sameVec(g.Second, h.Second) && identical(g.Until, h.Until)
}

// expected returns what is returned for a guard of the model, which may be nil.
func expected(g *guard) (api.Guard, bool) {
	if g == nil {
		return api.Guard{}, false
	}
	return g.given(), true
}

// checkFree calls Free and Hit for a scene, and Check with the guard that is returned.
func checkFree(t *testing.T, c scene) {
	t.Helper()
	x := c.given()
	want, stay := expected(c.free())
	got, found := sweep.Free(x.a, x.b, x.v, x.e)
	if found != stay || !sameGuard(got, want) {
		t.Fatalf("P9.1: Free returns %s, %v instead of %s: %s", show(got), found, show(want), x)
	}
	if e := sweep.Check(x.a, x.b, x.v, x.e, got); (e == api.OK) != found {
		t.Fatalf("P9.2: Check of %s, as Free returns it, is %d: %s", show(got), e, x)
	}
	first, last, hit := sweep.Hit(x.a, x.b, x.v, x.e)
	low, high := c.hit()
	if hit != (low != nil) || hit == found {
		t.Fatalf("P9.3: Hit returns %v, and Free %v: %s", hit, found, x)
	}
	if !hit {
		low, high = new(big.Rat), new(big.Rat)
	}
	if !identical(first, number(low)) || !identical(last, number(high)) {
		t.Fatalf("P9.3: Hit returns %s and %s instead of %s and %s: %s", show(first), show(last), show(low), show(high), x)
	}
}

// checkAway calls Away for a scene, and CheckAway with the guard that is returned.
func checkAway(t *testing.T, c scene) {
	t.Helper()
	x := c.given()
	want, stay := expected(c.away())
	got, found := sweep.Away(x.a, x.b, x.v, x.e)
	if found != stay || !sameGuard(got, want) {
		t.Fatalf("P9.4: Away returns %s, %v instead of %s: %s", show(got), found, show(want), x)
	}
	if e := sweep.CheckAway(x.a, x.b, x.v, x.e, got); (e == api.OK) != found {
		t.Fatalf("P9.4: CheckAway of %s, as Away returns it, is %d: %s", show(got), e, x)
	}
}

// The triangle of the chapter's examples.
func wedge() []spot { return []spot{{5, 0}, {8, 0}, {5, 3}} }

// known is a scene with the guard that is to be found, if its first direction is not (0, 0).
type known struct {
	name          string
	a, b          []spot
	v             spot
	e             api.Rat
	first, second spot
	until         api.Rat
}

func (k known) guard() (api.Guard, bool) {
	g := api.Guard{First: plane.Of(k.first.x, k.first.y), Second: plane.Of(k.second.x, k.second.y), Until: k.until}
	return g, k.first != spot{}
}

func TestKnownGuards(t *testing.T) {
	square, diamond := shapes()["square"], shapes()["diamond"]
	at := func(x, y int) []spot { return moved(square, x, y) }
	none, zero, one, little := spot{}, api.Rat{}, rat.Of(1, 1), rat.Of(1, 1000000)
	for _, k := range []known{
		// The examples of the chapter.
		{"until they touch", square, wedge(), spot{3, 0}, zero, spot{2, 0}, spot{2, 0}, one},
		{"into it", square, wedge(), spot{4, 0}, zero, none, none, zero},
		{"into the slope", square, wedge(), spot{4, 3}, zero, none, none, zero},
		{"over it", square, wedge(), spot{4, 8}, zero, spot{2, 0}, spot{0, -2}, rat.Of(3, 4)},
		// Margins.
		{"with a margin", square, wedge(), spot{2, 0}, one, spot{2, 0}, spot{2, 0}, one},
		{"with too little of a margin", square, wedge(), spot{2, 0}, rat.Add(one, little), none, none, zero},
		{"by a negative margin", square, wedge(), spot{4, 0}, rat.Of(-1, 1), spot{2, 0}, spot{2, 0}, one},
		{"by more than a negative margin", square, wedge(), spot{4, 0}, rat.Sub(little, one), none, none, zero},
		{"by a great negative margin", square, wedge(), spot{4, 0}, rat.Of(-99, 1), spot{0, -2}, spot{0, -2}, one},
		{"over it with a margin", square, wedge(), spot{4, 8}, rat.Of(1, 2), spot{2, 0}, spot{0, -2}, rat.Of(5, 8)},
		{"over it with the greatest margin", square, wedge(), spot{4, 8}, one, spot{2, 0}, spot{0, -2}, rat.Of(1, 2)},
		{"over it with a greater margin", square, wedge(), spot{4, 8}, rat.Add(one, little), none, none, zero},
		// At rest.
		{"at rest", square, wedge(), none, rat.Of(3, 1), spot{2, 0}, spot{2, 0}, one},
		{"at rest, too near", square, wedge(), none, rat.Add(rat.Of(3, 1), little), none, none, zero},
		{"at rest, overlapping", square, at(1, 1), none, zero, none, none, zero},
		{"at rest, by the depth", square, at(1, 1), none, rat.Of(-1, 1), spot{2, 0}, spot{2, 0}, one},
		// One direction separates all the time.
		{"along a side", square, at(2, 0), spot{0, 5}, zero, spot{2, 0}, spot{2, 0}, one},
		{"along a side, by more", square, at(2, 0), spot{0, 5}, little, none, none, zero},
		{"away", square, at(2, 0), spot{-1, 3}, zero, spot{2, 0}, spot{2, 0}, one},
		{"the second one of two that separate", square, at(4, 3), spot{3, -1}, zero, spot{0, 2}, spot{0, 2}, one},
		{"the first one of two that separate", square, at(4, 3), spot{1, 1}, zero, spot{2, 0}, spot{2, 0}, one},
		{"a slope", diamond, moved(diamond, 4, 0), spot{2, 0}, zero, spot{1, -1}, spot{1, -1}, one},
		{"an axis with a margin", diamond, moved(diamond, 4, 0), spot{1, 0}, one, spot{1, 0}, spot{1, 0}, one},
		{"the normal of b", square, []spot{{1, 4}, {4, 1}, {4, 4}}, spot{-1, 1}, rat.Of(1, 2), spot{3, 3}, spot{3, 3}, one},
		{"the normal of b, by more", square, []spot{{1, 4}, {4, 1}, {4, 4}}, spot{-1, 1}, rat.Add(rat.Of(1, 2), little), none, none, zero},
		// Two directions, each of them for a part of the time.
		{"past a corner", square, at(4, 0), spot{4, -4}, zero, spot{2, 0}, spot{0, 2}, rat.Of(1, 2)},
		{"past a corner, by more", square, at(4, 0), spot{4, -4}, little, none, none, zero},
		{"past a corner of itself", square, at(2, 2), spot{0, 0}, zero, spot{2, 0}, spot{2, 0}, one},
		{"the first one separates no longer", square, at(4, 3), spot{12, 2}, zero, spot{0, 2}, spot{-2, 0}, rat.Of(1, 2)},
		{"the first one still separates", square, at(4, 3), spot{4, 12}, zero, spot{2, 0}, spot{0, -2}, rat.Of(1, 2)},
		{"the second one of two that take over", square, at(4, 0), spot{8, -9}, zero, spot{2, 0}, spot{0, 2}, rat.Of(1, 4)},
		{"the triangle past the square", wedge(), square, spot{-4, -8}, zero, spot{-3, 0}, spot{3, 3}, rat.Of(3, 4)},
		{"not apart at first", square, at(1, 0), spot{-4, 0}, zero, none, none, zero},
		{"not apart at last", square, at(5, 0), spot{4, 0}, zero, none, none, zero},
		{"apart at both ends", square, at(2, 0), spot{4, 0}, zero, none, none, zero},
		{"far away", square, at(math.MaxInt-5, 0), spot{math.MaxInt - 7, 0}, zero, spot{2, 0}, spot{2, 0}, one},
		{"not as far away", square, at(math.MaxInt-5, 0), spot{math.MaxInt - 6, 0}, zero, none, none, zero},
		{"far past a corner", square, at(math.MaxInt-2, math.MaxInt-2), spot{math.MaxInt - 4, math.MaxInt}, zero, spot{2, 0}, spot{2, 0}, one},
	} {
		want, stay := k.guard()
		a, b, v := corners(k.a), corners(k.b), plane.Of(k.v.x, k.v.y)
		if got, found := sweep.Free(a, b, v, k.e); found != stay || !sameGuard(got, want) {
			t.Errorf("P9.1: Free returns %s, %v: %s", show(got), found, k.name)
		}
		if got := sweep.Check(a, b, v, k.e, want); (got == api.OK) != stay || got != api.OK && got != api.ErrProof {
			t.Errorf("P9.2: Check is %d: %s", got, k.name)
		}
		if low, high, hit := sweep.Hit(a, b, v, k.e); hit == stay || stay && !(identical(low, zero) && identical(high, zero)) {
			t.Errorf("P9.3: Hit returns %s, %s, %v: %s", show(low), show(high), hit, k.name)
		}
	}
}

func TestKnownHits(t *testing.T) {
	square := shapes()["square"]
	at := func(x, y int) []spot { return moved(square, x, y) }
	zero, one, little := api.Rat{}, rat.Of(1, 1), rat.Of(1, 1000000)
	for _, c := range []struct {
		name      string
		a, b      []spot
		v         spot
		e         api.Rat
		low, high api.Rat
		hit       bool
	}{
		{"into it", square, wedge(), spot{6, 0}, zero, rat.Of(1, 2), one, true},
		{"less far into it", square, wedge(), spot{4, 0}, zero, rat.Of(3, 4), one, true},
		{"into the slope", square, wedge(), spot{4, 3}, zero, rat.Of(3, 4), one, true},
		{"through it", square, wedge(), spot{12, 0}, zero, rat.Of(1, 4), rat.Of(2, 3), true},
		{"through it with a margin", square, wedge(), spot{12, 0}, one, rat.Of(1, 6), rat.Of(3, 4), true},
		{"through it by a negative margin", square, wedge(), spot{12, 0}, rat.Of(-1, 2), rat.Of(7, 24), rat.Of(7, 12), true},
		{"through it back", at(12, 0), wedge(), spot{-12, 0}, zero, rat.Of(1, 3), rat.Of(3, 4), true},
		{"until they touch", square, wedge(), spot{3, 0}, zero, zero, zero, false},
		{"over it", square, wedge(), spot{4, 8}, zero, zero, zero, false},
		{"over it, too near", square, wedge(), spot{4, 8}, rat.Of(2, 1), rat.Of(1, 4), rat.Of(5, 8), true},
		{"out of it", at(5, 0), wedge(), spot{6, 0}, zero, zero, rat.Of(1, 2), true},
		{"within it", at(5, 0), wedge(), spot{1, 0}, zero, zero, one, true},
		{"at rest", square, square, spot{0, 0}, zero, zero, one, true},
		{"at rest, too near", square, wedge(), spot{0, 0}, rat.Add(rat.Of(3, 1), little), zero, one, true},
		{"at rest, near", square, wedge(), spot{0, 0}, rat.Of(3, 1), zero, zero, false},
		{"apart at 0 only", square, at(2, 0), spot{1, 0}, zero, zero, one, true},
		{"apart at 1 only", square, at(1, 0), spot{-1, 0}, zero, zero, one, true},
		{"apart at 0 and at 1 only", square, at(2, 0), spot{4, 0}, zero, zero, one, true},
		{"apart at 1/2 only", square, at(4, 0), spot{4, -4}, zero, zero, zero, false},
		{"nearly apart at 1/2 only", square, at(4, 0), spot{4, -4}, rat.Of(1, 100), rat.Of(199, 400), rat.Of(201, 400), true},
		{"apart at 1/4 and 3/4", square, at(3, 0), spot{4, 0}, zero, rat.Of(1, 4), one, true},
		{"apart from 1 on", square, at(1, 0), spot{3, 0}, zero, zero, one, true},
		{"apart before 1", square, at(1, 0), spot{4, 0}, zero, zero, rat.Of(3, 4), true},
		{"the later of two that cease", square, at(4, 3), spot{8, 8}, zero, rat.Of(1, 4), rat.Of(5, 8), true},
		{"far away", square, at(math.MaxInt-5, 0), spot{math.MaxInt - 6, 0}, zero, rat.Of(math.MaxInt-7, math.MaxInt-6), one, true},
	} {
		low, high, hit := sweep.Hit(corners(c.a), corners(c.b), plane.Of(c.v.x, c.v.y), c.e)
		if hit != c.hit || !identical(low, c.low) || !identical(high, c.high) {
			t.Errorf("P9.3: Hit returns %s, %s, %v: %s", show(low), show(high), hit, c.name)
		}
	}
}

func TestKnownAways(t *testing.T) {
	square, diamond := shapes()["square"], shapes()["diamond"]
	at := func(x, y int) []spot { return moved(square, x, y) }
	none, zero, one, little := spot{}, api.Rat{}, rat.Of(1, 1), rat.Of(1, 1000000)
	for _, k := range []known{
		// The examples of the chapter.
		{"back", square, wedge(), spot{-1, 0}, rat.Of(3, 1), spot{2, 0}, spot{2, 0}, zero},
		{"into it", square, wedge(), spot{1, 0}, zero, none, none, zero},
		{"back, too near", square, wedge(), spot{-1, 0}, rat.Add(rat.Of(3, 1), little), none, none, zero},
		{"aside", square, wedge(), spot{0, 1}, rat.Of(3, 1), spot{2, 0}, spot{2, 0}, zero},
		{"aside, too near", square, wedge(), spot{0, 1}, rat.Add(rat.Of(3, 1), little), none, none, zero},
		{"over it", square, wedge(), spot{4, 8}, zero, spot{2, 0}, spot{0, -2}, rat.Of(3, 4)},
		{"over it, at another pace", square, wedge(), spot{1, 2}, zero, spot{2, 0}, spot{0, -2}, rat.Of(3, 1)},
		{"just over it", square, wedge(), spot{1, 1}, zero, spot{2, 0}, spot{0, -2}, rat.Of(3, 1)},
		{"not quite over it", square, wedge(), spot{1000, 999}, zero, none, none, zero},
		{"at rest", square, wedge(), none, rat.Of(3, 1), spot{2, 0}, spot{2, 0}, zero},
		{"at rest, too near", square, wedge(), none, rat.Of(4, 1), none, none, zero},
		// Shapes that touch at first.
		{"along a side", square, at(2, 0), spot{0, -1}, zero, spot{2, 0}, spot{2, 0}, zero},
		{"along a side, nearly", square, at(2, 0), spot{1, -1000000}, zero, none, none, zero},
		{"from a corner", square, at(2, 2), spot{1, -1}, zero, spot{0, 2}, spot{0, 2}, zero},
		{"from a corner, aside", square, at(2, 2), spot{0, 1}, zero, spot{2, 0}, spot{2, 0}, zero},
		{"out of a notch", at(2, 2), []spot{{1, 1}, {3, 1}, {2, 2}}, spot{1, 3}, zero, spot{0, -2}, spot{0, -2}, zero},
		// Shapes that overlap.
		{"overlapping", square, at(1, 1), spot{-1, 0}, zero, none, none, zero},
		{"overlapping, by the depth", square, at(1, 1), spot{-1, 0}, rat.Of(-1, 1), spot{2, 0}, spot{2, 0}, zero},
		{"overlapping, by the depth, into it", square, at(1, 1), spot{1, 0}, rat.Of(-1, 1), spot{0, 2}, spot{0, 2}, zero},
		{"overlapping, by the depth, into both", square, at(1, 1), spot{1, 1}, rat.Of(-1, 1), none, none, zero},
		{"overlapping, by much", square, at(1, 1), spot{0, 1}, rat.Of(-3, 1), spot{0, -2}, spot{0, -2}, zero},
		// The order of the directions.
		{"the second one, with a negative product", square, at(4, 3), spot{1, -1}, zero, spot{0, 2}, spot{0, 2}, zero},
		{"the second one, with a product of 0", square, at(4, 3), spot{1, 0}, zero, spot{0, 2}, spot{0, 2}, zero},
		{"the first one, with a product of 0", square, at(4, 3), spot{0, 1}, zero, spot{2, 0}, spot{2, 0}, zero},
		{"the first one of two", square, at(4, 3), spot{-1, -1}, zero, spot{2, 0}, spot{2, 0}, zero},
		{"an axis", diamond, moved(diamond, 4, 0), spot{0, 1}, rat.Of(2, 1), spot{1, 0}, spot{1, 0}, zero},
		{"the first pair of a later first one", square, at(4, 3), spot{12, 2}, zero, spot{0, 2}, spot{-2, 0}, rat.Of(1, 2)},
		{"the first pair", square, at(4, 3), spot{4, 12}, zero, spot{2, 0}, spot{0, -2}, rat.Of(1, 2)},
		{"between two that cease", square, at(4, 3), spot{8, 8}, zero, none, none, zero},
		// After the time 1, and at one time only.
		{"slowly past a corner", square, at(4, 0), spot{1, -1}, zero, spot{2, 0}, spot{0, 2}, rat.Of(2, 1)},
		{"slowly past a corner, too near", square, at(4, 0), spot{1, -1}, little, none, none, zero},
		{"past a corner", square, at(4, 0), spot{4, -4}, zero, spot{2, 0}, spot{0, 2}, rat.Of(1, 2)},
		{"past a corner with a margin", square, at(4, 0), spot{1, -3}, one, spot{2, 0}, spot{0, 2}, one},
		{"past a corner with too little of a margin", square, at(4, 0), spot{1, -3}, rat.Add(one, little), none, none, zero},
		{"far away", square, at(math.MaxInt-2, 0), spot{1, 0}, zero, none, none, zero},
		{"far past it", square, at(math.MaxInt-2, 0), spot{math.MaxInt - 4, -2}, zero, spot{2, 0}, spot{0, 2}, one},
		{"far and too near", square, at(math.MaxInt-2, 0), spot{math.MaxInt - 3, -2}, zero, none, none, zero},
	} {
		want, stay := k.guard()
		a, b, v := corners(k.a), corners(k.b), plane.Of(k.v.x, k.v.y)
		if got, found := sweep.Away(a, b, v, k.e); found != stay || !sameGuard(got, want) {
			t.Errorf("P9.4: Away returns %s, %v: %s", show(got), found, k.name)
		}
		if got := sweep.CheckAway(a, b, v, k.e, want); (got == api.OK) != stay || got != api.OK && got != api.ErrProof {
			t.Errorf("P9.4: CheckAway is %d: %s", got, k.name)
		}
	}
}

// All shapes on a grid of 2 times 2 points, in positions near each other, moved by all small vectors, with three margins: a part of them, spread over all.
func TestGrid(t *testing.T) {
	small := gridShapes(2)
	margins := []*big.Rat{whole(0), whole(1), big.NewRat(-1, 2)}
	counts := map[bool]int{}
	n := 0
	for _, a := range small {
		for _, b := range small {
			for k := range 7 * 7 * 9 * 9 * 3 {
				if n++; n%131 != 0 {
					continue
				}
				at, v := spot{k%7 - 3, k/7%7 - 3}, spot{k/49%9 - 4, k/441%9 - 4}
				c := scene{plain().list(a), plain().list(moved(b, at.x, at.y)), v.vec(), margins[k/3969]}
				checkFree(t, c)
				checkAway(t, c)
				counts[c.free() != nil]++
			}
		}
	}
	if counts[true] < 400 || counts[false] < 400 {
		t.Error("too few shapes stay apart, or too many:", counts)
	}
}

func TestFrames(t *testing.T) {
	r := rand.New(rand.NewPCG(9, 2))
	for k := range 150 {
		f := frameOf(r, 0)
		if k%10 == 0 {
			f = randomFrame(r, 60)
		}
		c := someScene(r, f)
		for _, e := range []*big.Rat{new(big.Rat), random(r, 3)} {
			checkFree(t, c.by(e))
			checkAway(t, c.by(e))
		}
	}
	for _, a := range shapes() {
		for _, b := range shapes() {
			at, v := spot{r.IntN(20) - 10, r.IntN(20) - 10}, spot{r.IntN(30) - 15, r.IntN(30) - 15}
			c := scene{plain().list(a), plain().list(moved(b, at.x, at.y)), v.vec(), whole(r.IntN(3) - 1)}
			checkFree(t, c)
			checkAway(t, c)
		}
	}
}

// The greatest margin by which shapes stay apart, and very little less and more than it.
func TestByLittle(t *testing.T) {
	r := rand.New(rand.NewPCG(9, 3))
	pairs := 0
	for k := range 80 {
		c := someScene(r, frameOf(r, k))
		exact, ever := c.widest(false), c.widest(true)
		for _, e := range []*big.Rat{exact, less(exact, small(k)), plus(exact, small(k))} {
			x := c.by(e).given()
			if _, found := sweep.Free(x.a, x.b, x.v, x.e); found != (e.Cmp(exact) <= 0) {
				t.Fatalf("P9.1: Free returns %v, but %s is the greatest margin: %s", found, show(exact), x)
			}
			checkFree(t, c.by(e))
		}
		for _, e := range []*big.Rat{ever, less(ever, small(k)), plus(ever, small(k))} {
			x := c.by(e).given()
			if _, found := sweep.Away(x.a, x.b, x.v, x.e); found != (e.Cmp(ever) <= 0) {
				t.Fatalf("P9.4: Away returns %v, but %s is the greatest margin: %s", found, show(ever), x)
			}
			checkAway(t, c.by(e))
		}
		if g := c.by(exact).free(); g.until.Cmp(whole(1)) < 0 {
			pairs++
		}
	}
	if pairs < 10 {
		t.Error("too few scenes in which two directions separate at one time only:", pairs)
	}
}
