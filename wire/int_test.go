package wire_test

import (
	"bytes"
	"math"
	"math/big"
	"math/rand/v2"
	"slices"
	"testing"

	"sherd/api"
	"sherd/wire"
)

// modelInt follows the wording of P1.1, with numbers of any size.
func modelInt(n int) []byte {
	m := big.NewInt(int64(n))
	if n < 0 {
		m.Sub(big.NewInt(-1), m)
	}
	digits := m.Bytes()
	k := len(digits)
	if n >= 0 {
		return append([]byte{byte(128 + k)}, digits...)
	}
	b := []byte{byte(127 - k)}
	for _, d := range digits {
		b = append(b, 255-d)
	}
	return b
}

// modelGetInt follows the wording of P1.2, error by error.
func modelGetInt(b []byte) (int, int, api.Errno) {
	if len(b) == 0 {
		return 0, 0, api.ErrMore
	}
	if b[0] < 119 || b[0] > 136 {
		return 0, 0, api.ErrForm
	}
	k := int(b[0]) - 128
	if b[0] < 128 {
		k = 127 - int(b[0])
	}
	if len(b)-1 < k {
		return 0, 0, api.ErrMore
	}
	digits := slices.Clone(b[1 : 1+k])
	for i := range digits {
		if b[0] < 128 {
			digits[i] = 255 - digits[i]
		}
	}
	m := new(big.Int).SetBytes(digits)
	if len(m.Bytes()) != k || !m.IsInt64() {
		return 0, 0, api.ErrForm
	}
	if b[0] < 128 {
		m.Sub(big.NewInt(-1), m)
	}
	return int(m.Int64()), 1 + k, api.OK
}

// someInts returns integers around all powers of two of both signs, and others of all sizes, in increasing order.
func someInts() []int {
	l := []int{0, math.MaxInt, math.MinInt}
	for k := range 64 {
		for d := -3; d <= 3; d++ {
			n := int(uint64(1)<<k) + d
			l = append(l, n, -n)
		}
	}
	r := rand.New(rand.NewPCG(1, 2))
	for i := range 3000 {
		l = append(l, int(r.Uint64())>>(i%64))
	}
	slices.Sort(l)
	return slices.Compact(l)
}

func TestIntExamples(t *testing.T) {
	for _, x := range []struct {
		n    int
		want []byte
	}{
		{0, []byte{128}},
		{1, []byte{129, 1}},
		{127, []byte{129, 127}},
		{128, []byte{129, 128}},
		{255, []byte{129, 255}},
		{256, []byte{130, 1, 0}},
		{65535, []byte{130, 255, 255}},
		{65536, []byte{131, 1, 0, 0}},
		{1<<32 - 1, []byte{132, 255, 255, 255, 255}},
		{1 << 32, []byte{133, 1, 0, 0, 0, 0}},
		{1<<56 - 1, []byte{135, 255, 255, 255, 255, 255, 255, 255}},
		{1 << 56, []byte{136, 1, 0, 0, 0, 0, 0, 0, 0}},
		{math.MaxInt, []byte{136, 127, 255, 255, 255, 255, 255, 255, 255}},
		{-1, []byte{127}},
		{-2, []byte{126, 254}},
		{-255, []byte{126, 1}},
		{-256, []byte{126, 0}},
		{-257, []byte{125, 254, 255}},
		{-65536, []byte{125, 0, 0}},
		{-65537, []byte{124, 254, 255, 255}},
		{-1 << 56, []byte{120, 0, 0, 0, 0, 0, 0, 0}},
		{-1<<56 - 1, []byte{119, 254, 255, 255, 255, 255, 255, 255, 255}},
		{math.MinInt, []byte{119, 128, 0, 0, 0, 0, 0, 0, 0}},
	} {
		if b := wire.Int(x.n); !bytes.Equal(b, x.want) {
			t.Errorf("P1.1: Int(%d) = %v, want %v", x.n, b, x.want)
		}
		if n, used, e := wire.GetInt(x.want); n != x.n || used != len(x.want) || e != api.OK {
			t.Errorf("P1.2: GetInt(%v) = %d, %d, %d", x.want, n, used, e)
		}
	}
}

func TestIntModel(t *testing.T) {
	for _, n := range someInts() {
		if b := wire.Int(n); !bytes.Equal(b, modelInt(n)) {
			t.Fatalf("P1.1: Int(%d) = %v, want %v", n, b, modelInt(n))
		}
	}
}

func TestGetIntErrors(t *testing.T) {
	for _, x := range []struct {
		why  string
		b    []byte
		want api.Errno
	}{
		{"nil", nil, api.ErrMore},
		{"no bytes", []byte{}, api.ErrMore},
		{"k is 9, positive", []byte{137}, api.ErrForm},
		{"k is 9, positive, complete", []byte{137, 1, 0, 0, 0, 0, 0, 0, 0, 0}, api.ErrForm},
		{"k is 9, negative", []byte{118}, api.ErrForm},
		{"k is 9, negative, complete", []byte{118, 1, 0, 0, 0, 0, 0, 0, 0, 0}, api.ErrForm},
		{"the least first byte", []byte{0}, api.ErrForm},
		{"the greatest first byte", []byte{255}, api.ErrForm},
		{"digits missing", []byte{129}, api.ErrMore},
		{"digits missing, negative", []byte{126}, api.ErrMore},
		{"one digit missing", []byte{130, 1}, api.ErrMore},
		{"one of eight digits missing", []byte{136, 127, 255, 255, 255, 255, 255, 255}, api.ErrMore},
		{"a leading zero and a missing digit", []byte{130, 0}, api.ErrMore},
		{"a leading zero and a missing digit, negative", []byte{125, 255}, api.ErrMore},
		{"too great and a missing digit", []byte{136, 255, 255, 255, 255, 255, 255, 255}, api.ErrMore},
		{"a zero", []byte{129, 0}, api.ErrForm},
		{"a zero, negative", []byte{126, 255}, api.ErrForm},
		{"a leading zero", []byte{130, 0, 1}, api.ErrForm},
		{"a leading zero, negative", []byte{125, 255, 254}, api.ErrForm},
		{"eight zeros", []byte{136, 0, 0, 0, 0, 0, 0, 0, 0}, api.ErrForm},
		{"2^63", []byte{136, 128, 0, 0, 0, 0, 0, 0, 0}, api.ErrForm},
		{"2^64 - 1", []byte{136, 255, 255, 255, 255, 255, 255, 255, 255}, api.ErrForm},
		{"-2^63 - 1", []byte{119, 127, 255, 255, 255, 255, 255, 255, 255}, api.ErrForm},
		{"-2^64", []byte{119, 0, 0, 0, 0, 0, 0, 0, 0}, api.ErrForm},
	} {
		if n, used, e := wire.GetInt(x.b); n != 0 || used != 0 || e != x.want {
			t.Errorf("P1.2: %s: GetInt(%v) = %d, %d, %d, want the error %d", x.why, x.b, n, used, e, x.want)
		}
	}
}

func TestGetIntAllShort(t *testing.T) {
	compare := func(b []byte) {
		n, used, e := wire.GetInt(b)
		if wantN, wantUsed, want := modelGetInt(b); n != wantN || used != wantUsed || e != want {
			t.Fatalf("P1.2: GetInt(%v) = %d, %d, %d, want %d, %d, %d", b, n, used, e, wantN, wantUsed, want)
		}
	}
	for first := range 256 {
		compare([]byte{byte(first)})
		for second := range 256 {
			compare([]byte{byte(first), byte(second)})
			for _, fill := range []byte{0, 1, 128, 254, 255} {
				b := append([]byte{byte(first), byte(second)}, bytes.Repeat([]byte{fill}, 8)...)
				for n := 3; n <= len(b); n++ {
					compare(b[:n])
				}
			}
		}
	}
}

func TestOrder(t *testing.T) {
	l := someInts()
	for i, n := range l {
		if b := wire.Int(n); len(b) > 9 {
			t.Errorf("P1.7: Int(%d) has %d bytes", n, len(b))
		}
		if i > 0 && bytes.Compare(wire.Int(l[i-1]), wire.Int(n)) >= 0 {
			t.Errorf("P1.7: Int(%d) does not precede Int(%d)", l[i-1], n)
		}
	}
	for i := 0; i < len(l); i += 7 {
		for j := 0; j < len(l); j += 11 {
			if got := bytes.Compare(wire.Int(l[i]), wire.Int(l[j])) < 0; got != (l[i] < l[j]) {
				t.Fatalf("P1.7: the order of %d and %d", l[i], l[j])
			}
		}
	}
}
