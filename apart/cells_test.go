package apart_test

import (
	"math"
	"math/big"
	"math/rand/v2"
	"slices"
	"testing"

	"sherd/apart"
	"sherd/api"
	"sherd/cells"
	"sherd/plane"
	"sherd/polygon"
	"sherd/rat"
)

func lists(l ...[]spot) [][]api.Vec {
	var made [][]api.Vec
	for _, m := range l {
		made = append(made, corners(m))
	}
	return made
}

func TestKnownLists(t *testing.T) {
	square := shapes()["square"]
	at := func(x, y int) []spot { return moved(square, x, y) }
	for _, c := range []struct {
		name  string
		a, b  [][]api.Vec
		e     api.Rat
		want  []spot
		found bool
	}{
		{"one cell each", lists(square), lists(at(3, 0)), rat.Of(1, 1), []spot{{2, 0}}, true},
		{"one cell each, by more", lists(square), lists(at(3, 0)), rat.Of(2, 1), nil, false},
		{"two cells and three", lists(square, at(0, 3)), lists(at(3, 0), at(-4, 1), at(0, -3)), rat.Of(1, 1), []spot{{2, 0}, {-2, 0}, {0, -2}, {0, -2}, {-2, 0}, {0, -2}}, true},
		{"three cells and two", lists(at(3, 0), at(-4, 1), at(0, -3)), lists(square, at(0, 3)), rat.Of(1, 1), []spot{{-2, 0}, {0, 2}, {2, 0}, {2, 0}, {0, 2}, {0, 2}}, true},
		{"the first pair meets", lists(at(3, 1), at(0, 3)), lists(at(3, 0), at(-4, 1), at(0, -3)), api.Rat{}, nil, false},
		{"a pair in the middle meets", lists(square, at(-3, 2)), lists(at(3, 0), at(-4, 1), at(0, -3)), api.Rat{}, nil, false},
		{"the last pair meets", lists(square, at(1, -2)), lists(at(3, 0), at(-4, 1), at(0, -3)), api.Rat{}, nil, false},
		{"the same list", lists(square, at(2, 0)), lists(square, at(2, 0)), rat.Of(-2, 1), []spot{{0, -2}, {0, -2}, {0, -2}, {0, -2}}, true},
		{"no cell", nil, lists(square), rat.Of(9, 1), nil, true},
		{"no other cell", lists(square), nil, rat.Of(9, 1), nil, true},
		{"no cells", nil, nil, rat.Of(9, 1), nil, true},
	} {
		got, found := apart.All(c.a, c.b, c.e)
		if found != c.found || !sameList(got, corners(c.want)) {
			t.Errorf("P8.5: All returns %s, %v: %s", show(got), found, c.name)
		}
		want := api.ErrProof
		if c.found {
			want = api.OK
		}
		if e := apart.Check(c.a, c.b, c.e, corners(c.want)); e != want {
			t.Errorf("P8.6: Check is %d: %s", e, c.name)
		}
	}
}

func TestKnownChecks(t *testing.T) {
	square, diamond := shapes()["square"], shapes()["diamond"]
	at := func(x, y int) []spot { return moved(square, x, y) }
	for _, c := range []struct {
		name string
		a, b [][]api.Vec
		e    api.Rat
		l    []spot
		want api.Errno
	}{
		{"the direction of Find", lists(square), lists(at(3, 0)), rat.Of(1, 1), []spot{{2, 0}}, api.OK},
		{"the same, longer", lists(square), lists(at(3, 0)), rat.Of(1, 1), []spot{{math.MaxInt, 0}}, api.OK},
		{"the same, shorter", lists(square), lists(at(3, 0)), rat.Of(1, 1), []spot{{1, 0}}, api.OK},
		{"the opposite direction", lists(square), lists(at(3, 0)), rat.Of(1, 1), []spot{{-2, 0}}, api.ErrProof},
		{"the opposite direction, by its gap", lists(square), lists(at(3, 0)), rat.Of(-5, 1), []spot{{-2, 0}}, api.OK},
		{"none of Dirs", lists(square), lists(at(3, 0)), rat.Of(1, 2), []spot{{5, 1}}, api.OK},
		{"none of Dirs, without room", lists(square), lists(at(3, 0)), rat.Of(1, 1), []spot{{5, 1}}, api.ErrProof},
		{"none of Dirs, by its gap", lists(square), lists(at(3, 0)), rat.Of(2, 5), []spot{{4, -1}}, api.OK},
		{"none of Dirs, by more than its gap", lists(square), lists(at(3, 0)), rat.Of(5, 12), []spot{{4, -1}}, api.ErrProof},
		{"none of Dirs, that leaves no gap", lists(square), lists(at(3, 0)), api.Rat{}, []spot{{2, 1}}, api.OK},
		{"none of Dirs, that leaves less", lists(square), lists(at(3, 0)), api.Rat{}, []spot{{5, 3}}, api.ErrProof},
		{"(0, 0)", lists(square), lists(at(3, 0)), api.Rat{}, []spot{{0, 0}}, api.ErrProof},
		{"(0, 0) for a negative margin", lists(square), lists(at(3, 0)), rat.Of(-9, 1), []spot{{0, 0}}, api.ErrProof},
		{"shapes that touch", lists(square), lists(at(2, 2)), api.Rat{}, []spot{{1, 7}}, api.OK},
		{"shapes that touch, by more", lists(square), lists(at(2, 2)), rat.Of(1, 1000), []spot{{1, 7}}, api.ErrProof},
		{"no directions", lists(square), lists(at(3, 0)), rat.Of(1, 1), nil, api.ErrProof},
		{"two directions", lists(square), lists(at(3, 0)), rat.Of(1, 1), []spot{{2, 0}, {2, 0}}, api.ErrProof},
		{"two pairs", lists(square), lists(at(3, 0), at(-4, 0)), rat.Of(1, 1), []spot{{2, 0}, {-2, 0}}, api.OK},
		{"two pairs in another order", lists(square), lists(at(3, 0), at(-4, 0)), rat.Of(1, 1), []spot{{-2, 0}, {2, 0}}, api.ErrProof},
		{"two pairs, the first direction only", lists(square), lists(at(3, 0), at(-4, 0)), rat.Of(1, 1), []spot{{2, 0}}, api.ErrProof},
		{"two pairs, the first direction twice", lists(square), lists(at(3, 0), at(-4, 0)), rat.Of(1, 1), []spot{{2, 0}, {2, 0}}, api.ErrProof},
		{"two pairs, the second one (0, 0)", lists(square), lists(at(3, 0), at(-4, 0)), rat.Of(-1, 1), []spot{{2, 0}, {0, 0}}, api.ErrProof},
		{"the order of the pairs", lists(square, at(0, 9)), lists(at(4, 0), at(4, 9)), rat.Of(2, 1), []spot{{1, 0}, {0, 1}, {0, -1}, {1, 0}}, api.OK},
		{"the other order of the pairs", lists(square, at(0, 9)), lists(at(4, 0), at(4, 9)), rat.Of(2, 1), []spot{{1, 0}, {0, -1}, {0, 1}, {1, 0}}, api.ErrProof},
		{"no pairs", nil, nil, rat.Of(1, 1), nil, api.OK},
		{"no pairs, for one cell", lists(diamond), nil, rat.Of(1, 1), nil, api.OK},
		{"no pairs, but a direction", nil, lists(diamond), rat.Of(-1, 1), []spot{{1, 0}}, api.ErrProof},
		{"an axis", lists(diamond), lists(moved(diamond, 4, 0)), rat.Of(2, 1), []spot{{1, 0}}, api.OK},
	} {
		if e := apart.Check(c.a, c.b, c.e, corners(c.l)); e != c.want {
			t.Errorf("P8.6: Check is %d: %s", e, c.name)
		}
	}
}

// wrong returns numbers that are not valid, which stand for v or would do, if they were read carelessly.
func wrong(v int) []api.Rat {
	digits := func(d ...int) api.Int { return api.Int{D: d} }
	negative := func(d ...int) api.Int { return api.Int{Neg: true, D: d} }
	return []api.Rat{
		{P: digits(v), Q: digits(1)},
		{P: digits(v, 0), Q: api.Int{}},
		{P: digits(2 * v), Q: digits(2)},
		{P: digits(6 * v), Q: digits(6)},
		{P: negative(v), Q: negative(1)},
		{P: negative(3 * v), Q: negative(3)},
		{P: digits(v), Q: digits(0)},
		{P: digits(v), Q: api.Int{Neg: true}},
		{P: digits(v), Q: digits(7, 0)},
		{P: digits(v+api.Base, 1)},
		{P: digits(v-api.Base, 1)},
		{P: digits(-v - 1)},
		{P: digits(math.MinInt)},
		{P: digits(math.MaxInt)},
		{P: negative()},
		{P: digits(0)},
	}
}

func TestWrongNumbers(t *testing.T) {
	a, b := lists(shapes()["square"], moved(shapes()["square"], 0, 5)), lists(moved(shapes()["square"], 9, 5))
	fine := []api.Vec{plane.Of(1, 0), plane.Of(3, 3)}
	for _, e := range []api.Rat{rat.Of(1, 10), api.Rat{}, rat.Of(-50, 1)} {
		if got := apart.Check(a, b, e, fine); got != api.OK {
			t.Fatalf("P8.6: Check of directions that separate by %s is %d", show(e), got)
		}
		for k := range fine {
			for n := range wrong(0) {
				l := slices.Clone(fine)
				l[k].X = wrong(3)[n]
				if got := apart.Check(a, b, e, l); got != api.ErrProof {
					t.Errorf("P8.6: Check is %d, where a first coordinate is %v", got, l[k].X)
				}
				l[k] = api.Vec{X: fine[k].X, Y: wrong(0)[n]}
				if got := apart.Check(a, b, e, l); got != api.ErrProof {
					t.Errorf("P8.6: Check is %d, where a second coordinate is %v", got, l[k].Y)
				}
				more := append(slices.Clone(fine), l[k])
				if got := apart.Check(a, b, e, more); got != api.ErrProof {
					t.Errorf("P8.6: Check is %d, with the direction %v behind all others", got, l[k])
				}
				if rat.Valid(wrong(3)[n]) || rat.Valid(wrong(0)[n]) {
					t.Errorf("valid: %v or %v", wrong(3)[n], wrong(0)[n])
				}
			}
		}
	}
}

// group is cells of the model and the same ones for the program.
type group struct {
	cells [][]vec
	made  [][]api.Vec
}

func (f frame) group(l ...[]spot) group {
	var g group
	for _, m := range l {
		g.cells = append(g.cells, f.list(m))
		g.made = append(g.made, vectors(f.list(m)))
	}
	return g
}

// together returns the greatest margin by which all pairs are apart; there is one pair at least.
func together(a, b group) *big.Rat {
	var least *big.Rat
	for _, p := range a.cells {
		for _, q := range b.cells {
			if m := greatest(p, q); least == nil || m.Cmp(least) < 0 {
				least = m
			}
		}
	}
	return least
}

// accepted reports whether the directions separate all pairs, in order, by e.
func accepted(a, b group, e *big.Rat, l []vec) bool {
	if len(l) != len(a.cells)*len(b.cells) {
		return false
	}
	for k, n := range l {
		p, q := a.cells[k/len(b.cells)], b.cells[k%len(b.cells)]
		if length(n).Sign() == 0 || gap(n, p, q).Cmp(times(e, length(n))) < 0 {
			return false
		}
	}
	return true
}

// checkAll compares All for a margin with the model, and returns the directions of the model.
func checkAll(t *testing.T, a, b group, e *big.Rat) []vec {
	t.Helper()
	var want []vec
	found := true
	for _, p := range a.cells {
		for _, q := range b.cells {
			if at := find(p, q, e); at >= 0 {
				want = append(want, dirs(p, q)[at])
			} else {
				found = false
			}
		}
	}
	if !found {
		want = nil
	}
	if l, ok := apart.All(a.made, b.made, number(e)); ok != found || !sameList(l, vectors(want)) {
		t.Fatalf("P8.5: All of %v and %v by %s returns %s, %v", a.made, b.made, show(e), show(l), ok)
	}
	return want
}

// checkLists compares Check of directions that were changed with the model.
func checkLists(t *testing.T, r *rand.Rand, a, b group, e *big.Rat, l []vec) {
	t.Helper()
	check := func(promise string, l []vec) {
		t.Helper()
		want := api.ErrProof
		if accepted(a, b, e, l) {
			want = api.OK
		}
		if got := apart.Check(a.made, b.made, number(e), vectors(l)); got != want {
			t.Fatalf("%s: Check of %s for %v and %v by %s is %d", promise, show(l), a.made, b.made, show(e), got)
		}
	}
	check("P8.10", l)
	check("P8.10", append(slices.Clone(l), randomVec(r, 3)))
	if len(l) == 0 {
		return
	}
	check("P8.10", append(slices.Clone(l), l[len(l)-1]))
	check("P8.10", append(l[:1:1], l...))
	for k := range l {
		check("P8.10", slices.Delete(slices.Clone(l), k, k+1))
		for _, n := range []vec{{whole(0), whole(0)}, {whole(0), l[k].y}, scale(l[k], big.NewRat(1, 7)), scale(l[k], whole(-1)), randomVec(r, 2), l[0], spot{0, 1}.vec()} {
			m := slices.Clone(l)
			m[k] = n
			check("P8.6", m)
		}
	}
	m := slices.Clone(l)
	r.Shuffle(len(m), func(i, k int) { m[i], m[k] = m[k], m[i] })
	check("P8.6", m)
	slices.Reverse(m)
	check("P8.6", m)
}

// someGroup returns up to three shapes.
func someGroup(r *rand.Rand, f frame, x int) group {
	var l [][]spot
	for range r.IntN(4) {
		l = append(l, moved(some(r), x, 0))
	}
	return f.group(l...)
}

func TestLists(t *testing.T) {
	r := rand.New(rand.NewPCG(8, 8))
	for k := range 80 {
		f := plain()
		if k%2 == 0 {
			f = randomFrame(r, 1+k%8)
		}
		a, b := someGroup(r, f, 0), someGroup(r, f, r.IntN(30))
		if len(a.cells)*len(b.cells) == 0 {
			checkLists(t, r, a, b, random(r, 2), checkAll(t, a, b, random(r, 2)))
			continue
		}
		exact := together(a, b)
		for _, e := range []*big.Rat{exact, less(exact, small(k)), plus(exact, small(k)), less(exact, random(r, 2))} {
			l := checkAll(t, a, b, e)
			if l == nil {
				// Nothing is accepted, whatever the list is like.
				for range len(a.cells) * len(b.cells) {
					l = append(l, spot{1, 0}.vec())
				}
			}
			checkLists(t, r, a, b, e, l)
		}
	}
}

// What All returns false for is not accepted for any directions; here for all with small coordinates.
func TestNothingIsAccepted(t *testing.T) {
	r := rand.New(rand.NewPCG(8, 9))
	for range 40 {
		a, b := some(r), some(r)
		e := apart.Depth(corners(a), corners(b))
		little := number(plus(whole(0), small(9)))
		for _, c := range []struct {
			e    api.Rat
			some bool
		}{{rat.Neg(e), true}, {rat.Add(rat.Neg(e), little), false}} {
			found := false
			for x := -4; x <= 4; x++ {
				for y := -4; y <= 4; y++ {
					found = found || apart.Check(lists(a), lists(b), c.e, []api.Vec{plane.Of(x, y)}) == api.OK
				}
			}
			if _, all := apart.All(lists(a), lists(b), c.e); all != c.some || found && !all {
				t.Fatalf("P8.10: All of %v and %v by %s returns %v, and Check accepts some direction: %v", a, b, show(c.e), all, found)
			}
		}
	}
}

// grow returns a valid polygon: a triangle to which corners were added one by one.
func grow(r *rand.Rand, n, size int) []spot {
	l := randomSpots(r, 3, size)
	for !polygon.Valid(corners(l)) {
		l = randomSpots(r, 3, size)
	}
	for range 12 * n {
		more := slices.Insert(slices.Clone(l), r.IntN(len(l)), spot{r.IntN(size), r.IntN(size)})
		if len(l) < n && polygon.Valid(corners(more)) {
			l = more
		}
	}
	return l
}

// checkPolygons checks P8.11 for points on a grid finer than that of the corners.
func checkPolygons(t *testing.T, a, b []api.Vec, e api.Rat) bool {
	t.Helper()
	first, _ := cells.Of(a)
	second, _ := cells.Of(b)
	_, found := apart.All(first, second, e)
	if !found {
		return false
	}
	lo, hi := polygon.Box(append(slices.Clone(a), b...))
	step := plane.Scale(plane.Sub(hi, lo), rat.Of(1, 23))
	for x := range 24 {
		for y := range 24 {
			p := plane.Add(lo, api.Vec{X: rat.Mul(step.X, rat.Of(x, 1)), Y: rat.Mul(step.Y, rat.Of(y, 1))})
			if polygon.Has(a, p) > 0 && polygon.Has(b, p) > 0 {
				t.Fatalf("P8.11: the point %s is inside of %s and of %s, whose cells are apart by %s", show(p), show(a), show(b), show(e))
			}
		}
	}
	return true
}

func TestPolygons(t *testing.T) {
	angle := []spot{{0, 0}, {4, 0}, {4, 2}, {2, 2}, {2, 4}, {0, 4}}
	hook := []spot{{3, 3}, {6, 3}, {6, -2}, {7, -2}, {7, 6}, {3, 6}}
	for _, c := range []struct {
		name string
		a, b []spot
		e    api.Rat
		want bool
	}{
		{"in the hollow", angle, moved(shapes()["square"], 2, 2), api.Rat{}, true},
		{"in the hollow, by more", angle, moved(shapes()["square"], 2, 2), rat.Of(1, 100), false},
		{"beside the hollow", angle, hook, rat.Of(1, 1), true},
		{"beside the hollow, by more", angle, hook, rat.Of(101, 100), false},
		{"in the way", angle, moved(hook, -2, 0), api.Rat{}, false},
		{"a part of it", angle, []spot{{0, 0}, {4, 0}, {0, 1}}, api.Rat{}, false},
		{"the same", angle, angle, api.Rat{}, false},
	} {
		if got := checkPolygons(t, corners(c.a), corners(c.b), c.e); got != c.want {
			t.Errorf("P8.11: All returns %v for the cells of polygons: %s", got, c.name)
		}
	}
	r := rand.New(rand.NewPCG(8, 10))
	found := 0
	for k := range 120 {
		f := frame{plain().right, plain().up, randomVec(r, 3)}
		g := frame{plain().right, plain().up, add(f.at, spot{3 + k%4, -k % 5}.vec())}
		if checkPolygons(t, vectors(f.list(grow(r, 3+k%10, 7))), vectors(g.list(grow(r, 3+k%9, 7))), rat.Of(k%2, 7)) {
			found++
		}
	}
	if found < 10 || found > 110 {
		t.Errorf("%d of 120 pairs of polygons are apart", found)
	}
}
