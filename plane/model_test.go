package plane_test

import (
	"fmt"
	"math"
	"math/big"
	"math/rand/v2"
	"slices"
	"testing"

	"sherd/api"
	"sherd/plane"
	"sherd/rat"
)

// vec, turn and place are the models of a vector, a turn and a placement.
type vec struct{ x, y *big.Rat }
type turn struct{ c, s *big.Rat }
type place struct {
	turn turn
	at   vec
}

// The next functions follow the wording of the chapter.

func add(v, w vec) vec {
	return vec{new(big.Rat).Add(v.x, w.x), new(big.Rat).Add(v.y, w.y)}
}

func sub(v, w vec) vec {
	return vec{new(big.Rat).Sub(v.x, w.x), new(big.Rat).Sub(v.y, w.y)}
}

func scale(v vec, k *big.Rat) vec { return vec{times(v.x, k), times(v.y, k)} }

func dot(v, w vec) *big.Rat { return new(big.Rat).Add(times(v.x, w.x), times(v.y, w.y)) }

func cross(v, w vec) *big.Rat { return new(big.Rat).Sub(times(v.x, w.y), times(v.y, w.x)) }

func side(u, v, w vec) int { return cross(sub(v, u), sub(w, u)).Sign() }

func same(v, w vec) bool { return v.x.Cmp(w.x) == 0 && v.y.Cmp(w.y) == 0 }

func rotate(t turn, v vec) vec {
	return vec{
		new(big.Rat).Sub(times(t.c, v.x), times(t.s, v.y)),
		new(big.Rat).Add(times(t.s, v.x), times(t.c, v.y)),
	}
}

func put(p place, v vec) vec { return add(rotate(p.turn, v), p.at) }

func times(v, w *big.Rat) *big.Rat { return new(big.Rat).Mul(v, w) }

// value returns what a valid number stands for.
func value(a api.Rat) *big.Rat {
	v, ok := new(big.Rat).SetString(rat.Text(a))
	if !ok {
		panic("the text of a number is none")
	}
	return v
}

// number returns the number that stands for v.
func number(v *big.Rat) api.Rat {
	a, e := rat.Parse(v.RatString())
	if e != api.OK {
		panic("the text of a number is too long")
	}
	return a
}

func vector(v vec) api.Vec { return api.Vec{X: number(v.x), Y: number(v.y)} }

func turning(t turn) api.Turn { return api.Turn{C: number(t.c), S: number(t.s)} }

func placing(p place) api.Place { return api.Place{Turn: turning(p.turn), At: vector(p.at)} }

// identical reports whether two numbers have the same signs and digits, sameVec and sameTurn whether those of two vectors and two turns are the same.
func identical(a, b api.Rat) bool {
	return a.P.Neg == b.P.Neg && a.Q.Neg == b.Q.Neg && slices.Equal(a.P.D, b.P.D) && slices.Equal(a.Q.D, b.Q.D)
}

func sameVec(a, b api.Vec) bool { return identical(a.X, b.X) && identical(a.Y, b.Y) }

func sameTurn(t, u api.Turn) bool { return identical(t.C, u.C) && identical(t.S, u.S) }

func samePlace(p, q api.Place) bool { return sameTurn(p.Turn, q.Turn) && sameVec(p.At, q.At) }

// show is for messages: the texts of numbers, and of anything else, shortened in the middle.
func show(x any) string {
	s := ""
	switch x := x.(type) {
	case []any:
		for _, a := range x {
			s += " " + show(a)
		}
		return s
	case *big.Rat:
		s = x.RatString()
	case vec:
		return "(" + show(x.x) + ", " + show(x.y) + ")"
	case turn:
		return "turn (" + show(x.c) + ", " + show(x.s) + ")"
	case place:
		return show(x.turn) + " at " + show(x.at)
	default:
		s = fmt.Sprint(x)
	}
	if len(s) > 160 {
		s = fmt.Sprintf("%s...%s (%d bytes)", s[:70], s[len(s)-70:], len(s))
	}
	return s
}

// checkNumber, checkVec, checkTurn and checkPlace report a result that is not valid or does not stand for want.
func checkNumber(t *testing.T, promise string, got api.Rat, want *big.Rat, args ...any) {
	t.Helper()
	if !rat.Valid(got) || !identical(got, number(want)) {
		t.Fatalf("%s:%s: the result is %s, not %s", promise, show(args), show(got), show(want))
	}
}

func checkVec(t *testing.T, promise string, got api.Vec, want vec, args ...any) {
	t.Helper()
	checkNumber(t, promise, got.X, want.x, append(args, "(X)")...)
	checkNumber(t, promise, got.Y, want.y, append(args, "(Y)")...)
}

func checkTurn(t *testing.T, promise string, got api.Turn, want turn, args ...any) {
	t.Helper()
	checkNumber(t, promise, got.C, want.c, append(args, "(C)")...)
	checkNumber(t, promise, got.S, want.s, append(args, "(S)")...)
	if !plane.Valid(got) {
		t.Fatalf("P5.7:%s: the result is not valid", show(args))
	}
}

func checkPlace(t *testing.T, promise string, got api.Place, want place, args ...any) {
	t.Helper()
	checkTurn(t, promise, got.Turn, want.turn, args...)
	checkVec(t, promise, got.At, want.at, args...)
}

// power returns b to the power of n.
func power(b int64, n int) *big.Int {
	return new(big.Int).Exp(big.NewInt(b), big.NewInt(int64(n)), nil)
}

// pair returns the vector (x, y).
func pair(x, y int64) vec { return vec{big.NewRat(x, 1), big.NewRat(y, 1)} }

// edges returns numbers at which representations change, with both signs.
func edges() []*big.Rat {
	l := []*big.Rat{new(big.Rat), big.NewRat(math.MinInt64, 1)}
	for _, v := range []*big.Rat{
		big.NewRat(1, 1), big.NewRat(2, 1), big.NewRat(1, 2), big.NewRat(3, 4), big.NewRat(999999999, 1), big.NewRat(1000000000, 3),
		big.NewRat(1, 1000000001), big.NewRat(math.MaxInt64, 1), big.NewRat(1, math.MaxInt64), new(big.Rat).SetInt(power(2, 64)),
		new(big.Rat).SetFrac(power(7, 30), power(3, 40)), new(big.Rat).SetFrac(power(3, 5), power(10, 27)),
	} {
		l = append(l, v, new(big.Rat).Neg(v))
	}
	return l
}

// edgeVecs returns all vectors of every third edge with one edge or another.
func edgeVecs() []vec {
	var l []vec
	all := edges()
	for i, x := range all {
		for j := i % 3; j < len(all); j += 3 {
			l = append(l, vec{x, all[j]})
		}
	}
	return l
}

// gridVecs returns the vectors whose coordinates are halves from -n / 2 to n / 2.
func gridVecs(n int64) []vec {
	var l []vec
	for x := -n; x <= n; x++ {
		for y := -n; y <= n; y++ {
			l = append(l, vec{big.NewRat(x, 2), big.NewRat(y, 2)})
		}
	}
	return l
}

// turnOf returns a turn from two integers that are not both 0: twice the angle of the vector (m, n).
func turnOf(m, n *big.Int) turn {
	mm, nn, mn := new(big.Int).Mul(m, m), new(big.Int).Mul(n, n), new(big.Int).Mul(m, n)
	whole := new(big.Int).Add(mm, nn)
	return turn{
		new(big.Rat).SetFrac(new(big.Int).Sub(mm, nn), whole),
		new(big.Rat).SetFrac(mn.Lsh(mn, 1), whole),
	}
}

// someTurns returns turns with all signs: none, half a turn and quarter turns, those of small triangles, and very small ones.
func someTurns() []turn {
	var l []turn
	one := big.NewInt(1)
	for _, b := range []*big.Int{new(big.Int), one, big.NewInt(2), big.NewInt(3), big.NewInt(1000000000), power(2, 32), power(10, 20)} {
		for _, a := range []*big.Int{one, big.NewInt(2), big.NewInt(7)} {
			t := turnOf(a, b)
			minus := turn{new(big.Rat).Neg(t.c), new(big.Rat).Neg(t.s)}
			l = append(l, t, turn{t.c, minus.s}, turn{minus.c, t.s}, minus, turn{t.s, t.c}, turn{minus.s, t.c}, turn{t.s, minus.c}, turn{minus.s, minus.c})
		}
	}
	return l
}

// random returns a number whose numerator and denominator have about n decimal digits at most.
func random(r *rand.Rand, n int) *big.Rat {
	q := big.NewInt(int64(1 + r.IntN(12)))
	if r.IntN(3) > 0 {
		q.Add(integerOf(r, r.IntN(n+1)), q)
	}
	p := integerOf(r, r.IntN(n+1))
	if r.IntN(2) == 0 {
		p.Neg(p)
	}
	return new(big.Rat).SetFrac(p, q)
}

// integerOf returns an integer from 0 to 10^n - 1.
func integerOf(r *rand.Rand, n int) *big.Int {
	v := new(big.Int)
	for range n {
		v.Add(v.Mul(v, big.NewInt(10)), big.NewInt(int64(r.IntN(10))))
	}
	return v
}

func randomVec(r *rand.Rand, n int) vec { return vec{random(r, n), random(r, n)} }

// randomTurn returns a turn whose numbers have about 2 n digits at most.
func randomTurn(r *rand.Rand, n int) turn {
	m := integerOf(r, r.IntN(n+1))
	t := turnOf(m.Add(m, big.NewInt(1)), integerOf(r, r.IntN(n+1)))
	if r.IntN(2) == 0 {
		t.c = new(big.Rat).Neg(t.c)
	}
	if r.IntN(2) == 0 {
		t.s = new(big.Rat).Neg(t.s)
	}
	return t
}

func randomPlace(r *rand.Rand, n int) place { return place{randomTurn(r, n), randomVec(r, n)} }

// somePlaces returns placements with each of the turns, some of them at zero.
func somePlaces() []place {
	l := []place{{turn{big.NewRat(1, 1), new(big.Rat)}, pair(0, 0)}, {turn{big.NewRat(1, 1), new(big.Rat)}, pair(3, -4)}}
	at := edgeVecs()
	for i, t := range someTurns() {
		l = append(l, place{t, pair(0, 0)}, place{t, at[(11*i+5)%len(at)]})
	}
	return l
}

func TestModel(t *testing.T) {
	for _, u := range someTurns() {
		length := new(big.Rat).Add(times(u.c, u.c), times(u.s, u.s))
		if length.Cmp(big.NewRat(1, 1)) != 0 {
			t.Fatal("the model contradicts itself at the", show(u))
		}
	}
	for _, v := range edgeVecs() {
		if a := vector(v); value(a.X).Cmp(v.x) != 0 || value(a.Y).Cmp(v.y) != 0 || !rat.Valid(a.X) || !rat.Valid(a.Y) {
			t.Fatal("the model contradicts itself at", show(v))
		}
	}
}
