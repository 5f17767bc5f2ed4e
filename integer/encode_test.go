package integer_test

import (
	"bytes"
	"math"
	"math/rand/v2"
	"slices"
	"testing"

	"sherd/api"
	"sherd/integer"
	"sherd/wire"
)

// listOf follows the wording of the chapter: the list whose encoding is that of an integer.
func listOf(x api.Int) []int { return append([]int{value(x).Sign()}, x.D...) }

// checkDecode compares what Decode returns for any bytes with the wording of P3.7.
func checkDecode(t *testing.T, b []byte) {
	t.Helper()
	x, used, e := integer.Decode(b)
	l, want, fault := wire.GetInts(b)
	if fault == api.OK {
		fault = api.ErrForm
		if len(l) > 0 {
			y := api.Int{Neg: l[0] == -1, D: l[1:]}
			if canonical(y) && slices.Equal(listOf(y), l) {
				fault = api.OK
			}
		}
	}
	if e != fault {
		t.Fatalf("P3.7: Decode(%s): the error is %d, not %d", show(b), e, fault)
	}
	if e != api.OK {
		if !same(x, api.Int{}) || used != 0 {
			t.Fatalf("P3.7: Decode(%s) returns %s, %d with an error", show(b), show(x), used)
		}
		return
	}
	if !canonical(x) || !slices.Equal(listOf(x), l) || used != want {
		t.Fatalf("P3.7: Decode(%s) is %s, %d", show(b), show(x), used)
	}
	if !bytes.Equal(integer.Encode(x), b[:used]) {
		t.Fatalf("P3.10: Encode of Decode(%s) is %s", show(b), show(integer.Encode(x)))
	}
}

func TestKnownEncodings(t *testing.T) {
	for _, x := range []struct {
		x api.Int
		l []int
		b []byte
	}{
		{api.Int{}, []int{0}, []byte{129, 1, 128}},
		{api.Int{D: []int{}}, []int{0}, []byte{129, 1, 128}},
		{api.Int{D: []int{1}}, []int{1, 1}, []byte{129, 2, 129, 1, 129, 1}},
		{api.Int{Neg: true, D: []int{5}}, []int{-1, 5}, []byte{129, 2, 127, 129, 5}},
		{api.Int{D: []int{0, 1}}, []int{1, 0, 1}, []byte{129, 3, 129, 1, 128, 129, 1}},
		{api.Int{Neg: true, D: []int{0, 256}}, []int{-1, 0, 256}, []byte{129, 3, 127, 128, 130, 1, 0}},
		{api.Int{D: []int{709551616, 446744073, 18}}, []int{1, 709551616, 446744073, 18}, nil},
	} {
		got := integer.Encode(x.x)
		if !bytes.Equal(got, wire.Ints(x.l)) || x.b != nil && !bytes.Equal(got, x.b) {
			t.Errorf("P3.7: Encode(%v) is %v", x.x, got)
		}
		if y, used, e := integer.Decode(got); !same(y, x.x) || used != len(got) || e != api.OK {
			t.Errorf("P3.7: Decode(%v) is %v, %d, %d", got, y, used, e)
		}
	}
}

func TestEncodingsBackAndForth(t *testing.T) {
	l := integers()
	r := rand.New(rand.NewPCG(3, 10))
	for range 3000 {
		l = append(l, random(r, 20))
	}
	l = append(l, long(1000, 19), integer.Neg(long(1001, 20)))
	tails := [][]byte{nil, {0}, {128}, {255}, {129, 1, 128}, {127, 118, 137}, bytes.Repeat([]byte{128}, 40)}
	for _, x := range l {
		b := integer.Encode(x)
		if !bytes.Equal(b, wire.Ints(listOf(x))) {
			t.Fatalf("P3.7: Encode(%s) is %s", show(x), show(b))
		}
		for _, tail := range tails {
			y, used, e := integer.Decode(append(slices.Clone(b), tail...))
			if !same(x, y) || used != len(b) || e != api.OK {
				t.Fatalf("P3.10: Decode of Encode(%s) with %v behind it is %s, %d, %d", show(x), tail, show(y), used, e)
			}
		}
	}
}

func TestEncodingsCutShort(t *testing.T) {
	for _, x := range append(integers(), long(300, 21)) {
		b := integer.Encode(x)
		for n := range b {
			if y, used, e := integer.Decode(b[:n]); e != api.ErrMore || used != 0 || !same(y, api.Int{}) {
				t.Fatalf("P3.7: the first %d bytes of the encoding of %s: %v, %d, %d", n, show(x), y, used, e)
			}
		}
	}
}

func TestListsOfNoInteger(t *testing.T) {
	for _, l := range [][]int{
		nil, {1}, {-1}, {2}, {-2}, {5}, {256},
		{0, 0}, {1, 0}, {-1, 0}, {0, 1}, {0, 5}, {2, 5}, {-2, 5}, {5, 5}, {math.MaxInt, 5}, {math.MinInt, 5},
		{1, -1}, {1, -5}, {-1, -5}, {1, 1000000000}, {-1, 1000000000}, {1, math.MaxInt}, {1, math.MinInt},
		{1, 5, 0}, {-1, 5, 0}, {1, 0, 0}, {1, 5, 0, 0, 0}, {0, 0, 1}, {1, 1000000000, 1}, {1, -1, 1}, {1, 1, -1}, {1, 0, 1000000000},
	} {
		b := wire.Ints(l)
		if x, used, e := integer.Decode(b); e != api.ErrForm || used != 0 || !same(x, api.Int{}) {
			t.Errorf("P3.7: Decode of the encoding of %v is %v, %d, %d", l, x, used, e)
		}
		// What cannot be decoded as a list counts first.
		for n := range b {
			if _, _, e := integer.Decode(b[:n]); e != api.ErrMore {
				t.Errorf("P3.7: the first %d bytes of the encoding of %v: the error is %d", n, l, e)
			}
		}
	}
}

func TestDecodeAllLists(t *testing.T) {
	eachList(4, []int{0, 1, -1, 2, 999999999, 1000000000, -2, math.MinInt, math.MaxInt}, func(l []int) {
		checkDecode(t, wire.Ints(l))
		checkDecode(t, append(wire.Ints(l), 7, 128))
	})
}

func TestDecodeAnyBytes(t *testing.T) {
	for _, b := range [][]byte{
		nil, {}, {127}, {137}, {118}, {129, 0}, {129}, {128}, {255, 255}, {129, 1, 137}, {129, 1, 118}, {129, 2, 129, 1, 130, 0, 1},
		{129, 2, 127, 129}, {136, 127, 255, 255, 255, 255, 255, 255, 255}, {126, 0, 1}, {129, 2, 200, 129, 5}, {129, 2, 129, 2, 200},
	} {
		checkDecode(t, b)
	}
	r := rand.New(rand.NewPCG(3, 11))
	pieces := []byte{0, 1, 2, 3, 118, 119, 126, 127, 128, 129, 130, 131, 136, 137, 255}
	for range 200000 {
		b := make([]byte, r.IntN(12))
		for i := range b {
			b[i] = pieces[r.IntN(len(pieces))]
		}
		checkDecode(t, b)
	}
	for range 20000 {
		b := integer.Encode(random(r, 6))
		b[r.IntN(len(b))] = byte(r.IntN(256))
		checkDecode(t, b)
		checkDecode(t, b[:r.IntN(len(b)+1)])
	}
}

func TestDecodeKeepsNothing(t *testing.T) {
	x := long(50, 22)
	b := integer.Encode(x)
	y, _, _ := integer.Decode(b)
	z, _, _ := integer.Decode(b)
	clear(b)
	if !same(y, x) || !same(z, x) {
		t.Error("P3.7: a decoded integer changes with the bytes")
	}
	c := integer.Encode(x)
	clear(c)
	if !same(y, x) || !bytes.Equal(integer.Encode(x), integer.Encode(z)) {
		t.Error("P3.7: an encoding shares memory with others")
	}
}
