package sweep_test

import (
	"fmt"
	"math/big"
	"math/rand/v2"
	"slices"
	"testing"

	"sherd/api"
	"sherd/plane"
	"sherd/rat"
	"sherd/sweep"
)

func lists(l ...[]spot) [][]api.Vec {
	var made [][]api.Vec
	for _, m := range l {
		made = append(made, corners(m))
	}
	return made
}

func TestKnownLists(t *testing.T) {
	square := shapes()["square"]
	at := func(x, y int) []spot { return moved(square, x, y) }
	zero, one, half := api.Rat{}, rat.Of(1, 1), rat.Of(1, 2)
	right, left, up, down := plane.Of(2, 0), plane.Of(-2, 0), plane.Of(0, 2), plane.Of(0, -2)
	for _, c := range []struct {
		name string
		a, b [][]api.Vec
		v    spot
		e    api.Rat
		want []api.Guard
		stay bool
	}{
		{"no shapes", nil, nil, spot{1, 0}, zero, nil, true},
		{"no shape to move", nil, lists(square), spot{1, 0}, zero, nil, true},
		{"no shape to rest", lists(square), nil, spot{1, 0}, zero, nil, true},
		{"one shape each", lists(square), lists(at(4, 0)), spot{4, -4}, zero, []api.Guard{{First: right, Second: up, Until: half}}, true},
		{"one shape each, overlapping", lists(square), lists(at(4, 0)), spot{4, -3}, zero, nil, false},
		{"one and two", lists(square), lists(at(4, 0), at(-3, 0)), spot{4, -4}, zero, []api.Guard{{First: right, Second: up, Until: half}, {First: left, Second: left, Until: one}}, true},
		{"two and one", lists(square, at(0, 4)), lists(at(4, 0)), spot{0, 1}, zero, []api.Guard{{First: right, Second: right, Until: one}, {First: down, Second: down, Until: one}}, true},
		{"two and two", lists(square, at(0, 4)), lists(at(4, 0), at(4, 4)), spot{1, -2}, one, []api.Guard{
			{First: right, Second: right, Until: one}, {First: right, Second: right, Until: one},
			{First: right, Second: right, Until: one}, {First: right, Second: right, Until: one}}, true},
		{"two and two, in order", lists(square, at(9, 0)), lists(at(4, 0), at(0, 4)), spot{0, -1}, zero, []api.Guard{
			{First: right, Second: right, Until: one}, {First: up, Second: up, Until: one},
			{First: left, Second: left, Until: one}, {First: up, Second: up, Until: one}}, true},
		{"the first pair overlaps", lists(square, at(0, 9)), lists(at(3, 0), at(0, 5)), spot{2, 0}, zero, nil, false},
		{"a pair in the middle overlaps", lists(square, at(0, 9)), lists(at(9, 9), at(1, 3)), spot{0, 2}, zero, nil, false},
		{"the last pair overlaps", lists(square, at(0, 9)), lists(at(4, 0), at(3, 9)), spot{2, 0}, zero, nil, false},
	} {
		v := plane.Of(c.v.x, c.v.y)
		got, stay := sweep.All(c.a, c.b, v, c.e)
		if stay != c.stay || !slices.EqualFunc(got, c.want, sameGuard) {
			t.Errorf("P9.5: All returns %s, %v: %s", show(got), stay, c.name)
		}
		if e := sweep.CheckAll(c.a, c.b, v, c.e, c.want); (e == api.OK) != c.stay || e != api.OK && e != api.ErrProof {
			t.Errorf("P9.5: CheckAll is %d: %s", e, c.name)
		}
	}
}

func TestKnownListChecks(t *testing.T) {
	square := shapes()["square"]
	a, b, v := lists(square, moved(square, 9, 0)), lists(moved(square, 4, 0), moved(square, 0, 4)), plane.Of(0, -1)
	one := func(x, y int) api.Guard {
		return api.Guard{First: plane.Of(x, y), Second: plane.Of(x, y), Until: rat.Of(1, 3)}
	}
	right, left, up, slope := one(3, 0), one(-1, 0), one(0, 1), one(-1, 1)
	for _, c := range []struct {
		name string
		l    []api.Guard
		want api.Errno
	}{
		{"all", []api.Guard{right, up, left, up}, api.OK},
		{"all, by another direction", []api.Guard{right, up, slope, slope}, api.OK},
		{"none", nil, api.ErrProof},
		{"one", []api.Guard{right}, api.ErrProof},
		{"too few", []api.Guard{right, up, left}, api.ErrProof},
		{"too many", []api.Guard{right, up, left, up, up}, api.ErrProof},
		{"twice as many", []api.Guard{right, up, left, up, right, up, left, up}, api.ErrProof},
		{"the other order of pairs", []api.Guard{right, left, up, up}, api.ErrProof},
		{"backwards", []api.Guard{up, left, up, right}, api.ErrProof},
		{"a wrong first one", []api.Guard{up, up, left, up}, api.ErrProof},
		{"a wrong second one", []api.Guard{right, right, left, up}, api.ErrProof},
		{"a wrong last one", []api.Guard{right, up, left, right}, api.ErrProof},
		{"a last one without directions", []api.Guard{right, up, left, {}}, api.ErrProof},
	} {
		if got := sweep.CheckAll(a, b, v, api.Rat{}, c.l); got != c.want {
			t.Errorf("P9.5: CheckAll is %d: %s", got, c.name)
		}
	}
	for _, c := range []struct {
		name string
		a, b [][]api.Vec
		l    []api.Guard
		want api.Errno
	}{
		{"no shapes", nil, nil, nil, api.OK},
		{"no shapes, but a guard", nil, nil, []api.Guard{up}, api.ErrProof},
		{"nothing to move", nil, b, nil, api.OK},
		{"nothing to move, but a guard", nil, b, []api.Guard{up}, api.ErrProof},
		{"nothing to rest", a, nil, nil, api.OK},
		{"nothing to rest, but a guard", a, nil, []api.Guard{up}, api.ErrProof},
	} {
		if got := sweep.CheckAll(c.a, c.b, v, api.Rat{}, c.l); got != c.want {
			t.Errorf("P9.5: CheckAll is %d: %s", got, c.name)
		}
	}
}

// group is some shapes in a frame.
type group [][]vec

func (g group) given() [][]api.Vec {
	var made [][]api.Vec
	for _, l := range g {
		made = append(made, vectors(l))
	}
	return made
}

// someGroups returns up to three shapes that move and up to three that rest, and by what they move.
func someGroups(r *rand.Rand, f frame) (group, group, vec) {
	var a, b group
	for range r.IntN(4) {
		a = append(a, f.list(some(r)))
	}
	at := spot{r.IntN(40), r.IntN(40) - 20}
	for range r.IntN(4) {
		b = append(b, f.list(moved(some(r), at.x, at.y)))
	}
	return a, b, sub(f.put(spot{r.IntN(60) - 20, r.IntN(60) - 30}), f.at)
}

func scenes(a, b group, v vec, e *big.Rat) []scene {
	var all []scene
	for _, p := range a {
		for _, q := range b {
			all = append(all, scene{p, q, v, e})
		}
	}
	return all
}

func TestLists(t *testing.T) {
	r := rand.New(rand.NewPCG(9, 5))
	counts := map[string]int{}
	for k := range 140 {
		a, b, v := someGroups(r, frameOf(r, k))
		e := random(r, 2)
		// The greatest margin by which all of them stay apart.
		for n, c := range scenes(a, b, v, e) {
			if m := c.widest(false); k%2 == 0 && (n == 0 || m.Cmp(e) < 0) {
				e = m
			}
		}
		if k%4 == 0 {
			e = plus(e, small(k))
		}
		var want []api.Guard
		stay := true
		for _, c := range scenes(a, b, v, e) {
			if g := c.free(); g != nil {
				want = append(want, g.given())
			} else {
				stay = false
			}
		}
		about := fmt.Sprintf("%s by %s past %s, margin %s", show(a.given()), show(v), show(b.given()), show(e))
		got, found := sweep.All(a.given(), b.given(), vector(v), number(e))
		if found != stay || stay && !slices.EqualFunc(got, want, sameGuard) || !stay && len(got) > 0 {
			t.Fatalf("P9.5: All returns %s, %v instead of %s, %v: %s", show(got), found, show(want), stay, about)
		}
		if !stay {
			counts["not apart"]++
			continue
		}
		check := func(l []api.Guard, fine bool) {
			t.Helper()
			if e := sweep.CheckAll(a.given(), b.given(), vector(v), number(e), l); (e == api.OK) != fine || e != api.OK && e != api.ErrProof {
				t.Fatalf("P9.5: CheckAll of %s is %d: %s", show(l), e, about)
			}
		}
		check(got, true)
		check(append(slices.Clone(got), api.Guard{}), false)
		for n := range got {
			counts["apart"]++
			l := slices.Clone(got)
			check(append(l, got[n]), false)
			check(slices.Delete(l, n, n+1), false)
			l = slices.Clone(got)
			m := someGuard(r, scenes(a, b, v, e)[n])
			l[n] = m.given()
			check(l, scenes(a, b, v, e)[n].shown(m, false))
		}
	}
	if counts["apart"] < 30 || counts["not apart"] < 20 {
		t.Error("too few lists stay apart, or too many:", counts)
	}
}
