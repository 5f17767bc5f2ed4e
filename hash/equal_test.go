package hash_test

import (
	"math"
	"strings"
	"testing"
	"time"

	"sherd/hash"
)

func TestEqualStrings(t *testing.T) {
	for _, n := range lengths {
		for _, a := range texts(n) {
			b := strings.Clone(a)
			if !hash.Equal(a, a) || !hash.Equal(a, b) {
				t.Errorf("P2.5: %q is not equal to itself", a)
			}
		}
	}
	for _, x := range []struct {
		a, b string
		same bool
	}{
		{"ab", "ab", true},
		{"ab", "ac", false},
		{"", "a", false},
		{"", "", true},
		{"", "\x00", false},
		{"a", "a\x00", false},
		{"\x00", "\x00\x00", false},
		{"ab", "ba", false},          // the same bytes in another order
		{"aa", "bb", false},          // differences that cancel each other by XOR
		{"ac", "bb", false},          // and by addition
		{"\x00a", "\x00b", false},    // behind a zero byte
		{"\x80", "\x00", false},      // the highest bit only
		{"\xff", "\xfe", false},      // not valid as UTF-8
		{"\xff", "\ufffd", false},    // equal as runes
		{"e\u0301", "\u00e9", false}, // equal to the eye
		{"A", "a", false},
		{"abc", "ab", false},
		{"abc", "bc", false},
		{"abc", "abcabc", false},
	} {
		if hash.Equal(x.a, x.b) != x.same || hash.Equal(x.b, x.a) != x.same {
			t.Errorf("P2.5: %q and %q: not %v", x.a, x.b, x.same)
		}
	}
}

func TestEveryDifferenceCounts(t *testing.T) {
	for _, n := range lengths {
		a := text(n)
		for i := range n {
			for bit := range 8 {
				b := []byte(a)
				b[i] ^= 1 << bit
				if hash.Equal(a, string(b)) || hash.Equal(string(b), a) {
					t.Fatalf("P2.5: %d bytes: bit %d of byte %d does not count", n, bit, i)
				}
			}
			if hash.Equal(a, a[:i]) || hash.Equal(a[:i], a) || hash.Equal(a, a[n-i:]) {
				t.Fatalf("P2.5: %d bytes are equal to %d", n, i)
			}
		}
	}
}

func TestEqualOnShortStrings(t *testing.T) {
	var all []string
	extend := []string{""}
	for range 4 {
		var next []string
		for _, s := range extend {
			for _, c := range []byte{0, 1, 128, 255} {
				next = append(next, s+string([]byte{c}))
			}
		}
		all = append(all, extend...)
		extend = next
	}
	for _, a := range all {
		for _, b := range all {
			if hash.Equal(a, b) != (a == b) {
				t.Fatalf("P2.5: %q and %q", a, b)
			}
		}
	}
}

// shortest returns the shortest of several times that Equal takes.
func shortest(a, b string) time.Duration {
	least := time.Duration(math.MaxInt64)
	for range 50 {
		start := time.Now()
		hash.Equal(a, b)
		least = min(least, time.Since(start))
	}
	return least
}

// A comparison that ends at the first difference would be thousands of times faster where that is at the beginning.
func TestTimeTellsNothing(t *testing.T) {
	const n = 1 << 20
	a := strings.Repeat("a", n)
	same := shortest(a, strings.Clone(a))
	for _, at := range []int{0, n / 100, n - 1} {
		b := []byte(a)
		b[at] = 'b'
		if got := shortest(a, string(b)); got*20 < same {
			t.Errorf("P2.5: a difference at byte %d is found in %v, no difference in %v", at, got, same)
		}
	}
}
