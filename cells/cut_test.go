package cells_test

import (
	"math"
	"math/rand/v2"
	"slices"
	"testing"

	"sherd/api"
	"sherd/cells"
	"sherd/integer"
	"sherd/rat"
)

func TestKnownCuts(t *testing.T) {
	dart, tooth := shapes()["dart"], shapes()["tooth"]
	bent := []spot{{0, 0}, {6, 0}, {4, 2}, {6, 3}, {0, 6}}
	for _, c := range []struct {
		name string
		l    []spot
		want [][3]int
	}{
		{"the example", shapes()["notch"], [][3]int{{1, 2, 3}, {0, 1, 3}, {0, 3, 4}}},
		{"a triangle", shapes()["triangle"], [][3]int{{0, 1, 2}}},
		{"the square", shapes()["square"], [][3]int{{3, 0, 1}, {1, 2, 3}}},
		{"six corners of a parabola", parabola(6), [][3]int{{5, 0, 1}, {5, 1, 2}, {5, 2, 3}, {3, 4, 5}}},
		{"the dart", dart, [][3]int{{0, 1, 2}, {0, 2, 3}}},
		{"the dart from its hollow on", begunAt(dart, 2), [][3]int{{0, 1, 2}, {0, 2, 3}}},
		{"the dart from the corner after its hollow on", begunAt(dart, 3), [][3]int{{3, 0, 1}, {1, 2, 3}}},
		{"a corner on the boundaries of triangles", shapes()["touched"], [][3]int{{1, 2, 3}, {0, 1, 4}}},
		{"a flat corner after the ear", bent, [][3]int{{0, 1, 2}, {0, 3, 4}}},
		{"a flat corner after the ear at the beginning", begunAt(bent, 1), [][3]int{{4, 0, 1}, {2, 3, 4}}},
		{"a flat corner before the ear", begunAt(bent, 2), [][3]int{{0, 1, 2}, {2, 3, 4}}},
		{"a flat corner at the end, before the ear", begunAt(bent, 3), [][3]int{{4, 0, 1}, {1, 2, 3}}},
		{"two flat corners", begunAt(tooth, 1), [][3]int{{0, 1, 2}, {6, 3, 4}, {4, 5, 6}}},
		{"two flat corners around the end", begunAt(tooth, 2), [][3]int{{6, 0, 1}, {5, 2, 3}, {3, 4, 5}}},
		{"no flat corner, since another ear is before the tooth", tooth, [][3]int{{6, 0, 1}, {6, 1, 2}, {6, 2, 3}, {6, 3, 4}, {4, 5, 6}}},
		{"three times two flat corners", shapes()["teeth"], [][3]int{{11, 0, 1}, {2, 3, 4}, {5, 6, 7}, {8, 9, 10}}},
	} {
		got, e := cells.Cut(corners(c.l))
		if e != api.OK || !slices.Equal(got, c.want) {
			t.Errorf("P7.1: Cut of %s is %v, %d, not %v", c.name, got, e, c.want)
		}
		if !slices.Equal(cut(c.l), c.want) {
			t.Errorf("the model cuts %s into %v", c.name, cut(c.l))
		}
	}
}

// refuse checks that no function takes a list that is not valid.
func refuse(t *testing.T, l []api.Vec) {
	t.Helper()
	if got, e := cells.Cut(l); e != api.ErrArg || len(got) > 0 {
		t.Fatalf("P7.1: Cut of %s, which is not valid, is %v, %d", show(l), got, e)
	}
	if got, e := cells.Of(l); e != api.ErrArg || len(got) > 0 {
		t.Fatalf("P7.4: Of %s, which is not valid, is %v, %d", show(l), got, e)
	}
	for k := -1; k <= len(l); k++ {
		if cells.Ear(l, k) {
			t.Fatalf("P7.2: the corner %d of %s, which is not valid, is an ear", k, show(l))
		}
	}
	for _, w := range [][][3]int{nil, {{0, 1, 2}}, {{2, 0, 1}}, {{0, 1, 2}, {0, 2, 3}}, {{3, 0, 1}, {1, 2, 3}}, {{-1, 0, 7}}} {
		if e := cells.Check(l, w); e != api.ErrArg {
			t.Fatalf("P7.3: Check of %v for %s, which is not valid, is %d", w, show(l), e)
		}
	}
}

func TestListsThatAreNotValid(t *testing.T) {
	for _, l := range [][]spot{
		nil,
		{},
		{{1, 2}},
		{{0, 0}, {4, 0}},
		{{0, 0}, {4, 0}, {0, 0}},
		{{1, 1}, {1, 1}, {1, 1}},
		{{0, 0}, {2, 1}, {4, 2}},
		{{0, 0}, {0, 4}, {4, 0}},
		{{0, 0}, {4, 4}, {4, 0}, {0, 4}},
		{{0, 0}, {6, 0}, {0, 6}, {1, -1}},
		{{0, 0}, {2, 0}, {4, 0}, {4, 4}, {0, 4}},
		{{0, 2}, {0, 0}, {4, 0}, {4, 4}, {0, 4}},
		{{0, 0}, {4, 0}, {4, 0}, {4, 4}, {0, 4}},
		{{0, 0}, {4, 0}, {4, 4}, {2, 0}, {0, 4}},
		{{0, 0}, {4, 0}, {4, 4}, {2, -1}, {0, 4}},
		{{0, 0}, {2, 2}, {4, 0}, {4, 4}, {2, 2}, {0, 4}},
		{{0, 10}, {-6, -8}, {10, 3}, {-10, 3}, {6, -8}},
		parabola(13),
		parabola(40),
		slices.Insert(slices.Clone(shapes()["comb"]), 1, spot{4, -1}),
	} {
		refuse(t, corners(l))
	}
	for _, l := range shapes() {
		refuse(t, corners(reversed(l)))
	}
}

// compare compares all that is said about a valid polygon with the model; made are its corners, in some frame.
func compare(t *testing.T, l []spot, made []api.Vec) {
	t.Helper()
	want := cut(l)
	got, e := cells.Cut(made)
	if e != api.OK || !slices.Equal(got, want) {
		t.Fatalf("P7.1: Cut of %s is %v, %d, not %v", show(made), got, e, want)
	}
	parts, e := cells.Of(made)
	if e != api.OK || len(parts) != len(want) {
		t.Fatalf("P7.4: Of %s is %d triangles, %d", show(made), len(parts), e)
	}
	for k, part := range parts {
		if len(part) != 3 || !sameVec(part[0], made[want[k][0]]) || !sameVec(part[1], made[want[k][1]]) || !sameVec(part[2], made[want[k][2]]) {
			t.Fatalf("P7.4: the triangle %d of %s, which is %v, is %s", k, show(made), want[k], show(part))
		}
	}
	for k := -2; k < len(l)+2; k++ {
		if want := k >= 0 && k < len(l) && ear(l, all(l), k); cells.Ear(made, k) != want {
			t.Fatalf("P7.2: Ear of %d is %v for %s", k, !want, show(made))
		}
	}
}

// All lists of few corners of small grids.
func TestCutsOnGrids(t *testing.T) {
	for _, c := range []struct{ corners, size int }{{3, 4}, {4, 3}, {5, 3}} {
		l, count := make([]spot, c.corners), 0
		var fill func(k int)
		fill = func(k int) {
			switch {
			case k < len(l):
				for p := range c.size * c.size {
					l[k] = spot{p / c.size, p % c.size}
					fill(k + 1)
				}
			case valid(l):
				count++
				compare(t, l, corners(l))
			default:
				if got, e := cells.Cut(corners(l)); e != api.ErrArg || len(got) > 0 {
					t.Fatalf("P7.1: Cut of %v, which is not valid, is %v, %d", l, got, e)
				}
			}
		}
		fill(0)
		if count < 200 {
			t.Errorf("only %d lists of %d corners were valid", count, c.corners)
		}
	}
}

// Each polygon also begins at each of its corners.
func TestCutsOfPolygons(t *testing.T) {
	for _, l := range shapes() {
		for k := range l {
			compare(t, begunAt(l, k), corners(begunAt(l, k)))
		}
	}
	r := rand.New(rand.NewPCG(7, 2))
	for k := range 300 {
		l := randomPolygon(r, 3+k%10, 4+k%9)
		at := r.IntN(len(l))
		compare(t, l, corners(l))
		compare(t, begunAt(l, at), corners(begunAt(l, at)))
	}
	for n := 3; n <= 12; n++ {
		for k := range n {
			compare(t, begunAt(parabola(n), k), corners(begunAt(parabola(n), k)))
		}
	}
}

// Numbers of many digits: what was decided for spots holds in each frame that keeps what is to the left.
func TestCutsInFrames(t *testing.T) {
	r := rand.New(rand.NewPCG(7, 3))
	for k := range 120 {
		l := randomPolygon(r, 3+k%10, 6)
		compare(t, l, randomFrame(r, 1+k%30).list(l))
	}
	for _, name := range []string{"comb", "teeth", "touched"} {
		compare(t, shapes()[name], randomFrame(r, 300).list(shapes()[name]))
	}
}

// The greatest numbers of the program, whose products are none.
func TestCutsAtGreatNumbers(t *testing.T) {
	lo, hi := math.MinInt, math.MaxInt
	for _, c := range []struct {
		l    []spot
		want [][3]int
	}{
		{[]spot{{lo, lo}, {hi, lo}, {hi, hi}, {lo, hi}}, [][3]int{{3, 0, 1}, {1, 2, 3}}},
		{[]spot{{lo, lo}, {hi, lo}, {-1, -1}, {lo, hi}}, [][3]int{{0, 1, 2}, {0, 2, 3}}},
		// The corner 3 lies on the line from 4 to 1, which are those beside 0, and then next to it.
		{[]spot{{lo, lo}, {hi, lo}, {hi, hi}, {lo + 2, hi - 2}, {lo, hi}}, [][3]int{{0, 1, 2}, {0, 2, 3}, {0, 3, 4}}},
		{[]spot{{lo, lo}, {hi, lo}, {hi, hi}, {lo + 2, hi - 3}, {lo, hi}}, [][3]int{{0, 1, 2}, {0, 2, 3}, {0, 3, 4}}},
		{[]spot{{lo, lo}, {hi, lo}, {hi, hi}, {lo + 2, hi - 1}, {lo, hi}}, [][3]int{{4, 0, 1}, {1, 2, 3}, {1, 3, 4}}},
	} {
		if got, e := cells.Cut(corners(c.l)); e != api.OK || !slices.Equal(got, c.want) {
			t.Errorf("P7.1: Cut of %v is %v, %d, not %v", c.l, got, e, c.want)
		}
	}
}

// What decides is less than any number of few digits.
func TestCutsByLittle(t *testing.T) {
	for _, n := range []int{1, 5, 9, 10, 18, 19, 20, 60, 400} {
		little := rat.Make(integer.Of(1), power(n))
		for sign, want := range [][][3]int{{{0, 1, 2}, {4, 0, 2}, {2, 3, 4}}, {{0, 1, 2}, {0, 3, 4}}, {{4, 0, 1}, {4, 1, 2}, {2, 3, 4}}} {
			// The corner 2 lies on the line from 4 to 1, and on that from 0 to 3, or next to both.
			l := corners([]spot{{0, 0}, {6, 0}, {4, 2}, {6, 3}, {0, 6}})
			l[2].Y = rat.Add(l[2].Y, rat.Mul(rat.Of(sign-1, 1), little))
			if got, e := cells.Cut(l); e != api.OK || !slices.Equal(got, want) {
				t.Errorf("P7.1: Cut of %s is %v, %d, not %v", show(l), got, e, want)
			}
			if cells.Ear(l, 0) != (sign == 2) {
				t.Errorf("P7.2: Ear of 0 is %v for %s", sign != 2, show(l))
			}
			if e := cells.Check(l, [][3]int{{0, 1, 2}, {0, 3, 4}}); (e == api.OK) != (sign == 1) {
				t.Errorf("P7.3: Check of two triples is %d for %s", e, show(l))
			}
		}
	}
}

// power returns 10^n.
func power(n int) api.Int {
	p := integer.Of(1)
	for range n {
		p = integer.Mul(p, integer.Of(10))
	}
	return p
}
