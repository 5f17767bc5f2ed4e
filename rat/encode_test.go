package rat_test

import (
	"bytes"
	"math"
	"math/big"
	"math/rand/v2"
	"slices"
	"testing"

	"sherd/api"
	"sherd/integer"
	"sherd/rat"
	"sherd/wire"
)

// listOf returns the list whose encoding is that of an integer.
func listOf(x api.Int) []int { return append([]int{bigOf(x).Sign()}, x.D...) }

// pair returns the encodings of two lists.
func pair(p, q []int) []byte { return append(wire.Ints(p), wire.Ints(q)...) }

// decode follows the wording of the chapter.
func decode(b []byte) (api.Rat, int, api.Errno) {
	p, m, e := integer.Decode(b)
	if e != api.OK {
		return api.Rat{}, 0, e
	}
	q, n, e := integer.Decode(b[m:])
	if e != api.OK {
		return api.Rat{}, 0, e
	}
	if a := (api.Rat{P: p, Q: q}); canonical(a) {
		return a, m + n, api.OK
	}
	return api.Rat{}, 0, api.ErrForm
}

// checkDecode compares what Decode returns for any bytes with the wording of P4.8.
func checkDecode(t *testing.T, b []byte) {
	t.Helper()
	got, used, e := rat.Decode(b)
	want, n, fault := decode(b)
	if !identical(got, want) || used != n || e != fault {
		t.Fatalf("P4.8: Decode(%s) is %s, %d, %d, not %s, %d, %d", show(b), show(got), used, e, show(want), n, fault)
	}
	if e == api.OK && !bytes.Equal(rat.Encode(got), b[:used]) {
		t.Fatalf("P4.12: Encode of Decode(%s) is %s", show(b), show(rat.Encode(got)))
	}
}

func TestKnownEncodings(t *testing.T) {
	for _, x := range []struct {
		a    api.Rat
		p, q []int
		b    []byte
	}{
		{rat.Of(1, 2), []int{1, 1}, []int{1, 2}, []byte{129, 2, 129, 1, 129, 1, 129, 2, 129, 1, 129, 2}},
		{api.Rat{}, []int{0}, []int{0}, []byte{129, 1, 128, 129, 1, 128}},
		{api.Rat{P: num(), Q: num()}, []int{0}, []int{0}, nil},
		{rat.Of(3, 1), []int{1, 3}, []int{0}, []byte{129, 2, 129, 1, 129, 3, 129, 1, 128}},
		{rat.Of(-3, 4), []int{-1, 3}, []int{1, 4}, []byte{129, 2, 127, 129, 3, 129, 2, 129, 1, 129, 4}},
		{rat.Of(-1, 1), []int{-1, 1}, []int{0}, nil},
		{rat.Of(1, 1000000000), []int{1, 1}, []int{1, 0, 1}, nil},
		{rat.Of(-1000000000, 7), []int{-1, 0, 1}, []int{1, 7}, nil},
		{rat.Of(math.MinInt, math.MaxInt), []int{-1, 854775808, 223372036, 9}, []int{1, 854775807, 223372036, 9}, nil},
		{rat.Of(1, math.MinInt), []int{-1, 1}, []int{1, 854775808, 223372036, 9}, nil},
	} {
		got := rat.Encode(x.a)
		if !bytes.Equal(got, pair(x.p, x.q)) || x.b != nil && !bytes.Equal(got, x.b) {
			t.Errorf("P4.8: Encode(%v) is %v", x.a, got)
		}
		if a, used, e := rat.Decode(got); !identical(a, x.a) || used != len(got) || e != api.OK {
			t.Errorf("P4.8: Decode(%v) is %v, %d, %d", got, a, used, e)
		}
	}
}

// encoded returns numbers of all kinds.
func encoded(seed uint64, n int) []*big.Rat {
	l := append(edges(), small(6, 2)...)
	r := rand.New(rand.NewPCG(4, seed))
	for range n {
		l = append(l, random(r, 6))
	}
	return append(l, random(r, 500))
}

func TestEncodingsBackAndForth(t *testing.T) {
	tails := [][]byte{nil, {0}, {128}, {255}, {129, 1, 128}, {129, 2, 129, 1, 129, 2}, {127, 118, 137}, bytes.Repeat([]byte{128}, 40)}
	for _, v := range encoded(15, 2000) {
		a := of(v)
		b := rat.Encode(a)
		if !bytes.Equal(b, pair(listOf(a.P), listOf(a.Q))) {
			t.Fatalf("P4.8: Encode(%s) is %s", show(v), show(b))
		}
		for _, tail := range tails {
			got, used, e := rat.Decode(append(slices.Clone(b), tail...))
			if !identical(got, a) || used != len(b) || e != api.OK {
				t.Fatalf("P4.12: Decode of Encode(%s) with %v behind it is %s, %d, %d", show(v), tail, show(got), used, e)
			}
		}
	}
}

func TestEncodingsCutShort(t *testing.T) {
	for _, v := range encoded(16, 50) {
		b := rat.Encode(of(v))
		for n := range b {
			if got, used, e := rat.Decode(b[:n]); e != api.ErrMore || used != 0 || !identical(got, api.Rat{}) {
				t.Fatalf("P4.8: the first %d bytes of the encoding of %s: %s, %d, %d", n, show(v), show(got), used, e)
			}
		}
	}
}

func TestEncodingsOfNoNumber(t *testing.T) {
	zero, one := []int{0}, []int{1, 1}
	for _, x := range []struct {
		reason string
		p, q   []int
	}{
		{"a common divisor", []int{1, 2}, []int{1, 4}},
		{"a common divisor", []int{-1, 6}, []int{1, 9}},
		{"a common divisor", []int{1, 0, 1}, []int{1, 2}},
		{"a common divisor", []int{1, 7}, []int{1, 1, 1}},
		{"the same above and below", []int{1, 5}, []int{1, 5}},
		{"the denominator 1", []int{1, 3}, one},
		{"the denominator 1", []int{-1, 3}, one},
		{"the denominator 1", one, one},
		{"0 with the denominator 1", zero, one},
		{"0 with a denominator", zero, []int{1, 2}},
		{"0 with a denominator", zero, []int{1, 0, 1}},
		{"0 with a negative denominator", zero, []int{-1, 1}},
		{"a negative denominator", one, []int{-1, 2}},
		{"a negative denominator", []int{-1, 3}, []int{-1, 4}},
		{"the denominator -1", one, []int{-1, 1}},
		{"a numerator that is none", nil, []int{1, 2}},
		{"a numerator that is none", []int{1}, []int{1, 2}},
		{"a numerator that is none", []int{0, 1}, zero},
		{"a numerator that is none", []int{1, 1000000000}, zero},
		{"a numerator that is none", []int{1, 1, 0}, []int{1, 2}},
		{"a numerator that is none", []int{2, 1}, []int{1, 2}},
		{"a denominator that is none", one, nil},
		{"a denominator that is none", one, []int{1}},
		{"a denominator that is none", one, []int{0, 0}},
		{"a denominator that is none", one, []int{1, -2}},
		{"a denominator that is none", one, []int{1, 2, 0}},
		{"a denominator that is none", zero, []int{1, math.MinInt}},
		{"two integers that are none", []int{1}, []int{1}},
	} {
		b := pair(x.p, x.q)
		if got, used, e := rat.Decode(b); e != api.ErrForm || used != 0 || !identical(got, api.Rat{}) {
			t.Errorf("P4.8: Decode of the encoding of %v, %v (%s) is %v, %d, %d", x.p, x.q, x.reason, got, used, e)
		}
		for n := range b {
			checkDecode(t, b[:n])
		}
		checkDecode(t, append(b, 128))
	}
}

// The error for the numerator counts before that for the denominator, and both before that for the number.
func TestDecodeErrorsInOrder(t *testing.T) {
	none, half, open := wire.Ints([]int{1}), wire.Ints([]int{1, 2}), []byte{129}
	for _, x := range []struct {
		b []byte
		e api.Errno
	}{
		{nil, api.ErrMore},
		{[]byte{}, api.ErrMore},
		{slices.Concat(none, open), api.ErrForm},
		{slices.Concat(none), api.ErrForm},
		{slices.Concat(half, open), api.ErrMore},
		{slices.Concat(half), api.ErrMore},
		{slices.Concat(half, none), api.ErrForm},
		{slices.Concat(half, none, open), api.ErrForm},
		{slices.Concat(half, half), api.ErrForm},
		{slices.Concat(half, half, open), api.ErrForm},
		{slices.Concat(half, []byte{129, 2, 129, 1}), api.ErrMore},
		{slices.Concat(half, []byte{137}), api.ErrForm},
		{slices.Concat([]byte{137}, half), api.ErrForm},
		{slices.Concat(wire.Ints([]int{0}), []byte{129, 2, 129, 1}), api.ErrMore},
	} {
		if got, used, e := rat.Decode(x.b); e != x.e || used != 0 || !identical(got, api.Rat{}) {
			t.Errorf("P4.8: Decode(%v) is %v, %d, %d, not %d", x.b, got, used, e, x.e)
		}
		checkDecode(t, x.b)
	}
}

func TestDecodeAllPairs(t *testing.T) {
	eachInt(2, func(p api.Int) {
		eachInt(1, func(q api.Int) {
			for _, sign := range []int{-1, 0, 1, 2} {
				checkDecode(t, pair(append([]int{sign}, p.D...), append([]int{1}, q.D...)))
				checkDecode(t, pair(append([]int{1}, p.D...), append([]int{sign}, q.D...)))
			}
		})
	})
	for p := range 40 {
		for q := range 40 {
			checkDecode(t, pair(listOf(integer.Of(p-20)), listOf(integer.Of(q-10))))
		}
	}
}

func TestDecodeAnyBytes(t *testing.T) {
	r := rand.New(rand.NewPCG(4, 17))
	pieces := []byte{0, 1, 2, 3, 118, 119, 126, 127, 128, 129, 130, 131, 136, 137, 255}
	for range 100000 {
		b := make([]byte, r.IntN(16))
		for i := range b {
			b[i] = pieces[r.IntN(len(pieces))]
		}
		checkDecode(t, b)
	}
	for range 20000 {
		b := rat.Encode(of(random(r, 4)))
		b[r.IntN(len(b))] = byte(r.IntN(256))
		checkDecode(t, b)
		checkDecode(t, b[:r.IntN(len(b)+1)])
	}
}

func TestDecodeKeepsNothing(t *testing.T) {
	v := random(rand.New(rand.NewPCG(4, 18)), 60)
	b := rat.Encode(of(v))
	got, _, _ := rat.Decode(b)
	clear(b)
	check(t, "P4.8", got, v, "Decode, after the bytes have changed")
	c := rat.Encode(got)
	clear(c)
	check(t, "P4.8", got, v, "Encode, after its result has changed")
}

// However a number is calculated, it is the same.
func TestEqualNumbersAreTheSame(t *testing.T) {
	r := rand.New(rand.NewPCG(4, 19))
	for range 3000 {
		v, w := random(r, 3), random(r, 3)
		if w.Sign() == 0 {
			w = big.NewRat(-3, 7)
		}
		a, b := of(v), of(w)
		parsed, _ := rat.Parse(rat.Text(a))
		decoded, _, _ := rat.Decode(rat.Encode(a))
		between, _ := rat.Between(a, a)
		for k, c := range []api.Rat{
			rat.Make(integer.Mul(a.P, b.P), integer.Mul(rat.Den(a), b.P)), rat.Sub(rat.Add(a, b), b), rat.Div(rat.Mul(a, b), b), rat.Mul(rat.Div(a, b), b),
			rat.Neg(rat.Neg(a)), rat.Add(a, api.Rat{}), rat.Mul(rat.Of(1, 1), a), rat.Div(a, rat.Of(-1, -1)), rat.Dot([]api.Rat{a, b, b}, []api.Rat{rat.Of(1, 1), b, rat.Neg(b)}),
			parsed, decoded, between, rat.Make(a.P, rat.Den(a)), rat.Make(integer.Neg(a.P), integer.Neg(rat.Den(a))),
		} {
			if !identical(a, c) || rat.Text(a) != rat.Text(c) || !rat.Same(a, c) || !bytes.Equal(rat.Encode(a), rat.Encode(c)) {
				t.Fatalf("P4.12: %s is %s, if it is calculated in another way (%d)", show(v), show(value(c)), k)
			}
		}
	}
}
