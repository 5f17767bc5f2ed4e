package wire_test

import (
	"bytes"
	"math"
	"slices"
	"strings"
	"testing"

	"sherd/api"
	"sherd/wire"
)

// join returns one list with the elements of all parts.
func join(parts ...[]byte) []byte { return slices.Concat(parts...) }

// zeros returns a list of n bytes 0.
func zeros(n int) []byte { return make([]byte, n) }

// refused is a byte sequence that is not decoded, and the error.
type refused struct {
	why  string
	b    []byte
	want api.Errno
}

// checkRefused checks that decode refuses all that a bad length makes bad, and the others.
func checkRefused(t *testing.T, promise string, decode func([]byte) (int, int, api.Errno), others []refused) {
	t.Helper()
	for _, x := range slices.Concat(badLengths, others) {
		if n, used, e := decode(x.b); n != 0 || used != 0 || e != x.want {
			t.Errorf("%s: %s: %d elements, %d, %d, want the error %d", promise, x.why, n, used, e, x.want)
		}
	}
}

// count returns a decoding function that tells only how long the result is.
func count[T any](get func([]byte) ([]T, int, api.Errno)) func([]byte) (int, int, api.Errno) {
	return func(b []byte) (int, int, api.Errno) {
		l, used, e := get(b)
		return len(l), used, e
	}
}

// badLengths are the beginnings that every encoding with a length refuses.
var badLengths = []refused{
	{"nil", nil, api.ErrMore},
	{"no bytes", []byte{}, api.ErrMore},
	{"a first byte that is none", join([]byte{137}, zeros(64)), api.ErrForm},
	{"a first byte that is none, alone", []byte{118}, api.ErrForm},
	{"an incomplete length", []byte{130, 1}, api.ErrMore},
	{"a length with a leading zero", join([]byte{129, 0}, zeros(64)), api.ErrForm},
	{"the length -1", join([]byte{127}, zeros(64)), api.ErrForm},
	{"the length -1, alone", []byte{127}, api.ErrForm},
	{"the length -2", join([]byte{126, 254}, zeros(64)), api.ErrForm},
	{"the least length", join(modelInt(math.MinInt), zeros(64)), api.ErrForm},
	{"an incomplete negative length", []byte{126}, api.ErrMore},
	{"a length of 1 without more", []byte{129, 1}, api.ErrMore},
	{"the length 2^31", join(modelInt(1<<31), zeros(64)), api.ErrMore},
	{"the length 2^32 + 1", join(modelInt(1<<32+1), zeros(64)), api.ErrMore},
	{"the length 2^59", join(modelInt(1<<59), zeros(64)), api.ErrMore},
	{"the length 2^60", join(modelInt(1<<60), zeros(64)), api.ErrMore},
	{"the length 2^60 + 1", join(modelInt(1<<60+1), zeros(64)), api.ErrMore},
	{"the length 2^62", join(modelInt(1<<62), zeros(64)), api.ErrMore},
	{"the greatest length", join(modelInt(math.MaxInt), zeros(64)), api.ErrMore},
	{"the greatest length, alone", modelInt(math.MaxInt), api.ErrMore},
	{"the length 2^63", join([]byte{136, 128}, zeros(70)), api.ErrForm},
}

func TestBytes(t *testing.T) {
	for _, s := range []string{"", "a", "ab", "\x00", "\xff\xfe", "ä\x00ö", strings.Repeat("x", 255), strings.Repeat("y", 256), strings.Repeat("z", 70000)} {
		want := join(modelInt(len(s)), []byte(s))
		if b := wire.Bytes(s); !bytes.Equal(b, want) {
			t.Errorf("P1.3: Bytes of %d bytes: %v", len(s), b)
		}
		if got, used, e := wire.GetBytes(want); got != s || used != len(want) || e != api.OK {
			t.Errorf("P1.3: GetBytes of %d bytes: %d bytes, %d, %d", len(s), len(got), used, e)
		}
	}
	if b := wire.Bytes("ab"); !bytes.Equal(b, []byte{129, 2, 97, 98}) {
		t.Error("P1.3: Bytes of ab:", b)
	}
}

func TestGetBytesErrors(t *testing.T) {
	checkRefused(t, "P1.3", func(b []byte) (int, int, api.Errno) {
		s, used, e := wire.GetBytes(b)
		return len(s), used, e
	}, []refused{
		{"one byte is missing", []byte{129, 3, 97, 98}, api.ErrMore},
		{"a length of 64 in 63 bytes", join([]byte{129, 64}, zeros(63)), api.ErrMore},
	})
}

func TestInts(t *testing.T) {
	for _, l := range [][]int{nil, {}, {0}, {1, -1}, {math.MaxInt, math.MinInt, 255, 256, -256, -257}, make([]int, 255), make([]int, 256), someInts()} {
		want := modelInt(len(l))
		for _, n := range l {
			want = append(want, modelInt(n)...)
		}
		if b := wire.Ints(l); !bytes.Equal(b, want) {
			t.Errorf("P1.4: Ints of %d elements: %v", len(l), b)
		}
		if got, used, e := wire.GetInts(want); !slices.Equal(got, l) || used != len(want) || e != api.OK {
			t.Errorf("P1.4: GetInts of %d elements: %d elements, %d, %d", len(l), len(got), used, e)
		}
	}
	if b := wire.Ints([]int{1, -1}); !bytes.Equal(b, []byte{129, 2, 129, 1, 127}) {
		t.Error("P1.4: Ints of 1, -1:", b)
	}
}

func TestGetIntsErrors(t *testing.T) {
	checkRefused(t, "P1.4", count(wire.GetInts), []refused{
		{"fewer bytes than elements", []byte{129, 3, 128, 128}, api.ErrMore},
		{"fewer bytes than elements, and a bad one", []byte{129, 3, 118, 118}, api.ErrMore},
		{"a bad first element", []byte{129, 2, 118, 128}, api.ErrForm},
		{"a bad last element", []byte{129, 2, 128, 137}, api.ErrForm},
		{"an incomplete last element", []byte{129, 2, 128, 129}, api.ErrMore},
		{"an element too few, though there are bytes enough", []byte{129, 3, 130, 1, 0, 128}, api.ErrMore},
		{"the bad element is the first one", []byte{129, 2, 129, 0, 130, 1}, api.ErrForm},
		{"the incomplete element is the first one", []byte{129, 2, 131, 137, 118}, api.ErrMore},
		{"an element that is out of range", join([]byte{129, 1, 136, 128}, zeros(7)), api.ErrForm},
	})
}

func TestStrings(t *testing.T) {
	for _, l := range [][]string{nil, {}, {""}, {"", "a"}, {"ab", "", "\x00\xff", strings.Repeat("x", 300)}, make([]string, 255), make([]string, 256)} {
		want := modelInt(len(l))
		for _, s := range l {
			want = join(want, modelInt(len(s)), []byte(s))
		}
		if b := wire.Strings(l); !bytes.Equal(b, want) {
			t.Errorf("P1.5: Strings of %d elements: %v", len(l), b)
		}
		if got, used, e := wire.GetStrings(want); !slices.Equal(got, l) || used != len(want) || e != api.OK {
			t.Errorf("P1.5: GetStrings of %d elements: %d elements, %d, %d", len(l), len(got), used, e)
		}
	}
	if b := wire.Strings([]string{"", "a"}); !bytes.Equal(b, []byte{129, 2, 128, 129, 1, 97}) {
		t.Error("P1.5: Strings of the empty string and a:", b)
	}
}

func TestGetStringsErrors(t *testing.T) {
	checkRefused(t, "P1.5", count(wire.GetStrings), []refused{
		{"fewer bytes than elements", []byte{129, 3, 128, 128}, api.ErrMore},
		{"fewer bytes than elements, and a bad one", []byte{129, 3, 118, 118}, api.ErrMore},
		{"an element with a bad length", []byte{129, 2, 128, 118}, api.ErrForm},
		{"an element with the length -1", []byte{129, 2, 128, 127}, api.ErrForm},
		{"an element with a length that is not the shortest", []byte{129, 1, 129, 0}, api.ErrForm},
		{"an incomplete element", []byte{129, 2, 128, 129, 2, 97}, api.ErrMore},
		{"an element without its length", []byte{129, 2, 128, 129}, api.ErrMore},
		{"an element with the greatest length", join([]byte{129, 1}, modelInt(math.MaxInt)), api.ErrMore},
		{"the bad element is the first one", []byte{129, 2, 127, 129, 2}, api.ErrForm},
		{"the incomplete element is the first one", []byte{129, 2, 129, 9, 127}, api.ErrMore},
		{"an element too few, though there are bytes enough", []byte{129, 3, 129, 2, 97, 98, 128}, api.ErrMore},
	})
}

// someDigests returns n digests that differ in all their bytes.
func someDigests(n int) []api.Digest {
	l := make([]api.Digest, n)
	for i := range l {
		for k := range l[i] {
			l[i][k] = byte(i*31 + k*7)
		}
	}
	return l
}

func TestDigests(t *testing.T) {
	for _, n := range []int{0, 1, 2, 3, 255, 256} {
		l := someDigests(n)
		want := modelInt(n)
		for _, d := range l {
			want = append(want, d[:]...)
		}
		if b := wire.Digests(l); !bytes.Equal(b, want) {
			t.Errorf("P1.8: Digests of %d elements: %v", n, b)
		}
		if got, used, e := wire.GetDigests(want); !slices.Equal(got, l) || used != len(want) || e != api.OK {
			t.Errorf("P1.8: GetDigests of %d elements: %v, %d, %d", n, got, used, e)
		}
	}
	if b := wire.Digests(nil); !bytes.Equal(b, []byte{128}) {
		t.Error("P1.8: Digests of nil:", b)
	}
}

func TestGetDigestsErrors(t *testing.T) {
	checkRefused(t, "P1.8", count(wire.GetDigests), []refused{
		{"one byte is missing", join([]byte{129, 1}, zeros(15)), api.ErrMore},
		{"one byte of the second element is missing", join([]byte{129, 2}, zeros(31)), api.ErrMore},
		{"as many bytes as elements", join([]byte{129, 32}, zeros(32)), api.ErrMore},
	})
}
