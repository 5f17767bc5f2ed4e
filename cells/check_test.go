package cells_test

import (
	"fmt"
	"math"
	"math/rand/v2"
	"slices"
	"testing"

	"sherd/api"
	"sherd/cells"
)

func TestKnownChecks(t *testing.T) {
	notch, tooth := shapes()["notch"], shapes()["tooth"]
	for _, c := range []struct {
		name string
		l    []spot
		t    [][3]int
		want api.Errno
	}{
		{"the example, in another order", notch, [][3]int{{3, 4, 0}, {0, 1, 3}, {1, 2, 3}}, api.ErrProof},
		{"the example, the last ear first", notch, [][3]int{{1, 2, 3}, {3, 4, 0}, {0, 1, 3}}, api.OK},
		{"the cut", notch, [][3]int{{1, 2, 3}, {0, 1, 3}, {0, 3, 4}}, api.OK},
		{"the last triple from its second corner on", notch, [][3]int{{1, 2, 3}, {0, 1, 3}, {3, 4, 0}}, api.OK},
		{"the last triple from its third corner on", notch, [][3]int{{1, 2, 3}, {0, 1, 3}, {4, 0, 3}}, api.OK},
		{"the last triple clockwise", notch, [][3]int{{1, 2, 3}, {0, 1, 3}, {0, 4, 3}}, api.ErrProof},
		{"the last triple clockwise from its second corner on", notch, [][3]int{{1, 2, 3}, {0, 1, 3}, {3, 0, 4}}, api.ErrProof},
		{"the last triple clockwise from its third corner on", notch, [][3]int{{1, 2, 3}, {0, 1, 3}, {4, 3, 0}}, api.ErrProof},
		{"the first triple turned", notch, [][3]int{{2, 3, 1}, {0, 1, 3}, {0, 3, 4}}, api.ErrProof},
		{"the first triple turned twice", notch, [][3]int{{3, 1, 2}, {0, 1, 3}, {0, 3, 4}}, api.ErrProof},
		{"the first triple clockwise", notch, [][3]int{{3, 2, 1}, {0, 1, 3}, {0, 3, 4}}, api.ErrProof},
		{"the second triple turned", notch, [][3]int{{1, 2, 3}, {1, 3, 0}, {0, 3, 4}}, api.ErrProof},
		{"the second triple turned twice", notch, [][3]int{{1, 2, 3}, {3, 0, 1}, {0, 3, 4}}, api.ErrProof},
		{"no triple", notch, nil, api.ErrProof},
		{"an empty list of triples", notch, [][3]int{}, api.ErrProof},
		{"one too few, at the end", notch, [][3]int{{1, 2, 3}, {0, 1, 3}}, api.ErrProof},
		{"one too few, at the beginning", notch, [][3]int{{0, 1, 3}, {0, 3, 4}}, api.ErrProof},
		{"one too many", notch, [][3]int{{1, 2, 3}, {0, 1, 3}, {0, 3, 4}, {0, 3, 4}}, api.ErrProof},
		{"one too many, which is that of the last corners turned", notch, [][3]int{{1, 2, 3}, {0, 1, 3}, {3, 4, 0}, {0, 3, 4}}, api.ErrProof},
		{"one too many, of no corners", notch, [][3]int{{1, 2, 3}, {0, 1, 3}, {0, 3, 4}, {}}, api.ErrProof},
		{"the first one twice", notch, [][3]int{{1, 2, 3}, {1, 2, 3}, {0, 1, 3}, {0, 3, 4}}, api.ErrProof},
		{"a corner that is no ear", notch, [][3]int{{4, 0, 1}, {1, 2, 3}, {1, 3, 4}}, api.ErrProof},
		{"a corner that is no ear yet", notch, [][3]int{{1, 2, 3}, {4, 0, 1}, {1, 3, 4}}, api.ErrProof},
		{"a corner that has become an ear", notch, [][3]int{{3, 4, 0}, {3, 0, 1}, {1, 2, 3}}, api.OK},
		{"a hollow corner", notch, [][3]int{{2, 3, 4}, {4, 0, 1}, {1, 2, 4}}, api.ErrProof},
		{"a corner that is gone", notch, [][3]int{{1, 2, 3}, {2, 3, 4}, {0, 1, 4}}, api.ErrProof},
		{"corners that are not next to each other", notch, [][3]int{{1, 2, 4}, {0, 1, 3}, {0, 3, 4}}, api.ErrProof},
		{"a negative index", notch, [][3]int{{1, 2, 3}, {0, 1, 3}, {0, 3, -1}}, api.ErrProof},
		{"an index that is negative by as many as corners", notch, [][3]int{{-4, -3, -2}, {0, 1, 3}, {0, 3, 4}}, api.ErrProof},
		{"an index that is too large", notch, [][3]int{{1, 2, 3}, {5, 1, 3}, {0, 3, 4}}, api.ErrProof},
		{"an index that is too large by as many as corners", notch, [][3]int{{1, 2, 3}, {5, 6, 8}, {0, 3, 4}}, api.ErrProof},
		{"the least and the greatest index", notch, [][3]int{{math.MinInt, math.MaxInt, math.MinInt}, {math.MaxInt, math.MaxInt, math.MaxInt}}, api.ErrProof},
		{"equal indices", notch, [][3]int{{2, 2, 2}, {1, 1, 1}, {0, 0, 0}}, api.ErrProof},
		{"two equal indices", notch, [][3]int{{1, 2, 3}, {0, 1, 3}, {0, 3, 3}}, api.ErrProof},
		{"a triangle", shapes()["triangle"], [][3]int{{0, 1, 2}}, api.OK},
		{"a triangle from its second corner on", shapes()["triangle"], [][3]int{{1, 2, 0}}, api.OK},
		{"a triangle from its third corner on", shapes()["triangle"], [][3]int{{2, 0, 1}}, api.OK},
		{"a clockwise triangle", shapes()["triangle"], [][3]int{{0, 2, 1}}, api.ErrProof},
		{"a triangle twice", shapes()["triangle"], [][3]int{{0, 1, 2}, {0, 1, 2}}, api.ErrProof},
		{"a triangle without triples", shapes()["triangle"], nil, api.ErrProof},
		{"a tooth that is cut first", tooth, [][3]int{{1, 2, 3}, {6, 0, 4}, {4, 5, 6}}, api.OK},
		{"a tooth that is cut later", tooth, [][3]int{{6, 0, 1}, {1, 2, 3}, {1, 4, 5}, {1, 5, 6}}, api.OK},
		{"a corner that is flat is not cut", tooth, [][3]int{{1, 2, 3}, {0, 1, 3}, {6, 0, 3}, {6, 3, 4}, {4, 5, 6}}, api.ErrProof},
		{"a corner that is flat does not remain", tooth, [][3]int{{1, 2, 3}, {6, 0, 1}, {6, 1, 3}, {6, 3, 4}, {4, 5, 6}}, api.ErrProof},
		{"two flat corners around the end, cut first", begunAt(tooth, 3), [][3]int{{5, 6, 0}, {4, 1, 2}, {2, 3, 4}}, api.OK},
		{"two flat corners at the end, cut first", begunAt(tooth, 4), [][3]int{{4, 5, 6}, {3, 0, 1}, {2, 3, 1}}, api.OK},
		{"two flat corners at the end, which remain", begunAt(tooth, 3), [][3]int{{5, 6, 0}, {4, 5, 0}, {4, 0, 1}, {4, 1, 2}, {2, 3, 4}}, api.ErrProof},
		{"all teeth, in another order", shapes()["teeth"], [][3]int{{5, 6, 7}, {2, 3, 4}, {11, 0, 1}, {10, 8, 9}}, api.OK},
		{"a corner on the boundary of its triangle", shapes()["touched"], [][3]int{{4, 0, 1}, {1, 2, 3}, {1, 3, 4}}, api.ErrProof},
	} {
		if got := cells.Check(corners(c.l), c.t); got != c.want {
			t.Errorf("P7.3: Check is %d: %s", got, c.name)
		}
		if accepted(c.l, c.t) != (c.want == api.OK) {
			t.Errorf("the model is wrong: %s", c.name)
		}
	}
}

// accepted follows the triples through the model.
func accepted(l []spot, t [][3]int) bool {
	left := all(l)
	for len(left) > 3 {
		if len(t) == 0 {
			return false
		}
		at := slices.Index(left, t[0][1])
		if at < 0 || beside(left, at) != t[0] || !ear(l, left, at) {
			return false
		}
		left, t = without(l, left, at), t[1:]
	}
	return len(t) == 1 && (t[0] == beside(left, 0) || t[0] == beside(left, 1) || t[0] == beside(left, 2))
}

func checkCheck(t *testing.T, l []spot, made []api.Vec, w [][3]int) {
	t.Helper()
	want := api.ErrProof
	if accepted(l, w) {
		want = api.OK
	}
	if got := cells.Check(made, w); got != want {
		t.Fatalf("P7.3: Check of %v for %s is %d", w, show(made), got)
	}
}

// All lists of few triples.
func TestChecksOfFewCorners(t *testing.T) {
	var triples [][3]int
	for k := range 125 {
		triples = append(triples, [3]int{k/25 - 1, k/5%5 - 1, k%5 - 1})
	}
	for name, want := range map[string]int{"triangle": 3, "square": 12, "dart": 6} {
		l, count := shapes()[name], 0
		made := corners(l)
		for _, a := range triples {
			lists := [][][3]int{{a}}
			for _, b := range triples {
				lists = append(lists, [][3]int{a, b})
			}
			for _, w := range lists {
				checkCheck(t, l, made, w)
				if accepted(l, w) {
					count++
				}
			}
		}
		if count != want {
			t.Errorf("P7.3: %d lists of triples are accepted for the %s, not %d", count, name, want)
		}
	}
}

// changed returns a list of triples in which something was changed.
func changed(r *rand.Rand, w [][3]int, n int) [][3]int {
	w = slices.Clone(w)
	i, j := r.IntN(len(w)), r.IntN(len(w))
	switch r.IntN(8) {
	case 0:
		w[i], w[j] = w[j], w[i]
	case 1:
		return slices.Delete(w, i, i+1)
	case 2:
		return slices.Insert(w, i, w[j])
	case 3:
		w[i] = [3]int{w[i][1], w[i][2], w[i][0]}
	case 4:
		w[i] = [3]int{w[i][2], w[i][1], w[i][0]}
	case 5:
		w[i][r.IntN(3)] = w[j][r.IntN(3)]
	case 6:
		w[i][r.IntN(3)] = r.IntN(n+4) - 2
	case 7:
		w[i][r.IntN(3)] += []int{-n, n, 1, -1, 1 << 32, math.MinInt}[r.IntN(6)]
	}
	return w
}

// All ways to cut polygons with few corners are accepted, and ways in which something was changed only if they are among them.
func TestAllWays(t *testing.T) {
	r := rand.New(rand.NewPCG(7, 6))
	counts := map[bool]int{}
	for k := range 60 {
		l := randomPolygon(r, 3+k%4, 3+k%5)
		if k < 8 {
			l = begunAt(shapes()["tooth"], k%7)
		}
		made, found := randomFrame(r, 1+k%8).list(l), map[string]bool{}
		var some [][][3]int
		ways(l, all(l), nil, func(w [][3]int) {
			found[fmt.Sprint(w)] = true
			if some = append(some, w); len(some)%7 > 0 && len(l) > 5 {
				return
			}
			if e := cells.Check(made, w); e != api.OK {
				t.Fatalf("P7.3: Check of %v for %s is %d", w, show(made), e)
			}
		})
		for range 80 {
			w := changed(r, some[r.IntN(len(some))], len(l))
			want := found[fmt.Sprint(w)]
			if got := cells.Check(made, w); got != api.OK && got != api.ErrProof || (got == api.OK) != want {
				t.Fatalf("P7.3: Check of %v for %s is %d", w, show(made), got)
			}
			counts[want]++
		}
	}
	if counts[true] < 100 || counts[false] < 1000 {
		t.Error("the lists of triples are too much alike:", counts)
	}
}

// someWay returns the triples of ears that were chosen at random.
func someWay(r *rand.Rand, l []spot) [][3]int {
	var w [][3]int
	left := all(l)
	for len(left) > 3 {
		if at := r.IntN(len(left)); ear(l, left, at) {
			w = append(w, beside(left, at))
			left = without(l, left, at)
		}
	}
	return append(w, beside(left, r.IntN(3)))
}

func TestChecksOfManyCorners(t *testing.T) {
	r := rand.New(rand.NewPCG(7, 7))
	check := func(l []spot, made []api.Vec) {
		for range 6 {
			w := someWay(r, l)
			if e := cells.Check(made, w); e != api.OK {
				t.Fatalf("P7.3: Check of %v for %s is %d", w, show(made), e)
			}
			checkCheck(t, l, made, changed(r, w, len(l)))
			checkCheck(t, l, made, changed(r, changed(r, append(w, w...), len(l)), len(l)))
		}
	}
	for _, l := range shapes() {
		check(l, corners(l))
		check(l, randomFrame(r, 40).list(l))
	}
	for k := range 120 {
		l := randomPolygon(r, 5+k%8, 4+k%6)
		check(l, randomFrame(r, 1+k%12).list(l))
	}
	many := make([][3]int, 100000)
	if cells.Check(corners(shapes()["comb"]), many) != api.ErrProof {
		t.Error("P7.3: many triples are accepted")
	}
}
