package wire_test

import (
	"bytes"
	"math"
	"math/rand/v2"
	"runtime"
	"slices"
	"strings"
	"sync"
	"testing"

	"sherd/api"
	"sherd/wire"
)

// codec is a pair of functions of package wire, with its values behind the type any.
type codec struct {
	name string
	// decode returns a copy of the value, whether it is the zero value, the number of bytes, and the error.
	decode func(b []byte) (any, bool, int, api.Errno)
	encode func(x any) []byte
	same   func(x, y any) bool
}

func listCodec[T comparable](name string, get func([]byte) ([]T, int, api.Errno), put func([]T) []byte) codec {
	return codec{
		name: name,
		decode: func(b []byte) (any, bool, int, api.Errno) {
			l, used, e := get(b)
			return l, len(l) == 0, used, e
		},
		encode: func(x any) []byte { return put(x.([]T)) },
		same:   func(x, y any) bool { return slices.Equal(x.([]T), y.([]T)) },
	}
}

func codecs() []codec {
	return []codec{
		{
			name: "Int",
			decode: func(b []byte) (any, bool, int, api.Errno) {
				n, used, e := wire.GetInt(b)
				return n, n == 0, used, e
			},
			encode: func(x any) []byte { return wire.Int(x.(int)) },
			same:   func(x, y any) bool { return x == y },
		},
		{
			name: "Bytes",
			decode: func(b []byte) (any, bool, int, api.Errno) {
				s, used, e := wire.GetBytes(b)
				return s, s == "", used, e
			},
			encode: func(x any) []byte { return wire.Bytes(x.(string)) },
			same:   func(x, y any) bool { return x == y },
		},
		listCodec("Ints", wire.GetInts, wire.Ints),
		listCodec("Strings", wire.GetStrings, wire.Strings),
		listCodec("Digests", wire.GetDigests, wire.Digests),
	}
}

// samples returns values of the kind of codec k.
func samples(k int) []any {
	var l []any
	switch k {
	case 0:
		for _, n := range someInts() {
			l = append(l, n)
		}
	case 1:
		for _, s := range []string{"", "a", "\x80", "\xff\x00", strings.Repeat("ab", 200)} {
			l = append(l, s)
		}
	case 2:
		for _, x := range [][]int{nil, {0}, {1, -1}, {math.MinInt, math.MaxInt}, {256, -257, 0, 1 << 40}, make([]int, 300)} {
			l = append(l, x)
		}
	case 3:
		for _, x := range [][]string{nil, {""}, {"", "a"}, {"abc", "", "\x00\xff"}, make([]string, 300)} {
			l = append(l, x)
		}
	case 4:
		for _, n := range []int{0, 1, 2, 20} {
			l = append(l, someDigests(n))
		}
	}
	return l
}

func TestRoundTrip(t *testing.T) {
	tails := [][]byte{nil, {0}, {128}, {255}, {127, 118, 137}, {129, 1, 97}, bytes.Repeat([]byte{128}, 40)}
	for k, c := range codecs() {
		for _, x := range samples(k) {
			b := c.encode(x)
			for _, tail := range tails {
				y, _, used, e := c.decode(join(b, tail))
				if e != api.OK || used != len(b) || !c.same(x, y) {
					t.Fatalf("P1.6: %s: %v with %v behind it: %v, %d, %d", c.name, b, tail, y, used, e)
				}
			}
			for n := range b {
				if _, zero, used, e := c.decode(b[:n]); e != api.ErrMore || !zero || used != 0 {
					t.Fatalf("P1.6: %s: the first %d bytes of %v: %d, %d", c.name, n, b, used, e)
				}
			}
		}
	}
}

// checkAny checks what P1 and P1.6 say of every byte sequence.
func checkAny(t *testing.T, c codec, b []byte) {
	t.Helper()
	x, zero, used, e := c.decode(b)
	if e != api.OK {
		if !zero || used != 0 || (e != api.ErrMore && e != api.ErrForm) {
			t.Fatalf("P1.6: %s: %v: %v, %d with the error %d", c.name, b, x, used, e)
		}
		return
	}
	if used < 1 || used > len(b) || !bytes.Equal(c.encode(x), b[:used]) {
		t.Fatalf("P1.6: %s: %v: %v, %d is not the encoding of what was decoded", c.name, b, x, used)
	}
}

func TestEveryShortSequence(t *testing.T) {
	bytesToTry := []byte{0, 1, 2, 118, 119, 126, 127, 128, 129, 130, 136, 137, 255}
	for _, c := range codecs() {
		for first := range 256 {
			checkAny(t, c, []byte{byte(first)})
			for second := range 256 {
				checkAny(t, c, []byte{byte(first), byte(second)})
			}
		}
		var extend func(b []byte)
		extend = func(b []byte) {
			checkAny(t, c, b)
			if len(b) == 5 {
				return
			}
			for _, x := range bytesToTry {
				extend(append(b[:len(b):len(b)], x))
			}
		}
		extend(nil)
	}
}

func TestDamagedEncodings(t *testing.T) {
	r := rand.New(rand.NewPCG(3, 4))
	for k, c := range codecs() {
		l := samples(k)
		for range 20000 {
			b := slices.Clone(c.encode(l[r.IntN(len(l))]))
			for range 1 + r.IntN(3) {
				b[r.IntN(len(b))] = byte(r.Uint32())
			}
			checkAny(t, c, b[:1+r.IntN(len(b))])
			checkAny(t, c, b)
		}
	}
}

func TestArgumentsAreNotChanged(t *testing.T) {
	for k, c := range codecs() {
		for _, x := range samples(k) {
			b := c.encode(x)
			// The bytes behind the slice would show a function that appends to its argument.
			whole := join(b, []byte{1, 2, 3, 4, 5, 6, 7, 8, 9})
			before := slices.Clone(whole)
			y, _, _, _ := c.decode(whole[:len(b)])
			if !bytes.Equal(whole, before) {
				t.Errorf("P1: %s: decoding changed its argument", c.name)
			}
			c.encode(y)
			if !c.same(x, y) {
				t.Errorf("P1: %s: encoding changed its argument", c.name)
			}
		}
	}
}

func TestResultsAreNewMemory(t *testing.T) {
	for k, c := range codecs() {
		for _, x := range samples(k) {
			b := c.encode(x)
			want := slices.Clone(b)
			other := c.encode(x)
			y, _, _, _ := c.decode(b)
			for i := range b {
				b[i] ^= 255
			}
			if !c.same(x, y) {
				t.Errorf("P1: %s: %v: the decoded value shares memory with its argument", c.name, x)
			}
			if !bytes.Equal(other, want) || !bytes.Equal(c.encode(x), want) {
				t.Errorf("P1: %s: %v: two encodings share memory", c.name, x)
			}
		}
	}
	checkSeparate(t, "P1.4", wire.GetInts, wire.Ints([]int{5, 6}))
	checkSeparate(t, "P1.5", wire.GetStrings, wire.Strings([]string{"a", "b"}))
	checkSeparate(t, "P1.8", wire.GetDigests, wire.Digests(someDigests(2)))
}

// checkSeparate decodes b, changes the list, and decodes b again.
func checkSeparate[T comparable](t *testing.T, promise string, get func([]byte) ([]T, int, api.Errno), b []byte) {
	t.Helper()
	first, _, _ := get(b)
	second, _, _ := get(b)
	want := slices.Clone(first)
	slices.Reverse(first)
	third, _, _ := get(b)
	if !slices.Equal(second, want) || !slices.Equal(third, want) {
		t.Errorf("%s: two results share memory", promise)
	}
}

// allocated returns how many bytes f allocates.
func allocated(f func()) uint64 {
	var before, after runtime.MemStats
	runtime.ReadMemStats(&before)
	f()
	runtime.ReadMemStats(&after)
	return after.TotalAlloc - before.TotalAlloc
}

func TestMemoryIsProportional(t *testing.T) {
	const many = 1 << 17
	for _, c := range codecs() {
		// The length promises far more than there is.
		for _, n := range []int{1 << 24, 1 << 27, 1 << 40, math.MaxInt} {
			b := join(modelInt(n), zeros(40))
			if got := allocated(func() { c.decode(b) }); got > 1<<20 {
				t.Errorf("P1.6: %s: %d bytes of memory for %d bytes", c.name, got, len(b))
			}
		}
		// Elements as short as possible; each one may cost memory, but not more for each byte than a few words.
		for _, fill := range []byte{128, 0} {
			b := join(modelInt(many), bytes.Repeat([]byte{fill}, many))
			if got := allocated(func() { c.decode(b) }); got > 500*many {
				t.Errorf("P1.6: %s: %d bytes of memory for %d bytes", c.name, got, len(b))
			}
		}
	}
}

func TestCallsAtTheSameTime(t *testing.T) {
	var group sync.WaitGroup
	for k, c := range codecs() {
		for range 4 {
			group.Go(func() {
				for _, x := range samples(k) {
					if y, _, _, e := c.decode(c.encode(x)); e != api.OK || !c.same(x, y) {
						t.Errorf("P1: %s: %v: %v, %d", c.name, x, y, e)
						return
					}
				}
			})
		}
	}
	group.Wait()
}
