package hash_test

import (
	"crypto/sha256"
	"encoding/hex"
	"math"
	"slices"
	"strings"
	"testing"

	"sherd/api"
	"sherd/hash"
	"sherd/wire"
)

// modelOf returns the digest of parts, by the model.
func modelOf(tag int, parts ...string) api.Digest {
	b := []byte{byte(((tag % 256) + 256) % 256)}
	for _, p := range parts {
		b = append(b, wire.Bytes(p)...)
	}
	sum := sha256.Sum256(b)
	return api.Digest(sum[:16])
}

// someParts returns lists of parts; each of them differs from all others, though many are the same bytes if joined.
func someParts() [][]string {
	l := [][]string{nil}
	pieces := []string{"", "a", "b", "ab", "\x80", "\x81", "\x81\x01a", "\x00", "\x80\x80"}
	for from, depth := 0, 0; depth < 3; depth++ {
		to := len(l)
		for _, head := range l[from:to] {
			for _, p := range pieces {
				l = append(l, append(slices.Clone(head), p))
			}
		}
		from = to
	}
	for _, n := range lengths {
		if n > 2 {
			l = append(l, []string{text(n)}, []string{text(n), text(n)}, []string{text(n) + text(n)}, []string{text(n), ""})
		}
	}
	return l
}

func TestKnownDigests(t *testing.T) {
	for _, x := range []struct {
		tag   int
		parts []string
		input string // the bytes of which the digest is the hash
		ends  string // those of the digest, as the chapter shows them
	}{
		{1, nil, "\x01", "4bf5122f 8cd2b7e3"},
		{8, []string{"a", ""}, "\x08\x81\x01a\x80", "36cd5085 a7d8fb62"},
		{0, nil, "\x00", ""},
		{255, nil, "\xff", ""},
		{-1, nil, "\xff", ""},
		{-255, nil, "\x01", ""},
		{-256, []string{""}, "\x00\x80", ""},
		{256, []string{"", ""}, "\x00\x80\x80", ""},
		{257, []string{"ab", "\xff"}, "\x01\x81\x02ab\x81\x01\xff", ""},
		{128, []string{"é"}, "\x80\x81\x02é", ""},
		{233, []string{"x"}, "\xe9\x81\x01x", ""},
		{math.MinInt, nil, "\x00", ""},
		{math.MinInt + 5, nil, "\x05", ""},
		{math.MaxInt, nil, "\xff", ""},
		{2, []string{strings.Repeat("a", 300)}, "\x02\x82\x01\x2c" + strings.Repeat("a", 300), ""},
	} {
		got := hash.Of(x.tag, x.parts...)
		sum := sha256.Sum256([]byte(x.input))
		if got != api.Digest(sum[:16]) {
			t.Errorf("P2.4: the digest of %q with the tag %d is %x, not %x", x.parts, x.tag, got, sum[:16])
		}
		code := hex.EncodeToString(got[:])
		if x.ends != "" && x.ends != code[:8]+" "+code[24:] {
			t.Errorf("P2.4: the digest of %q with the tag %d is %s, not %s", x.parts, x.tag, code, x.ends)
		}
	}
}

func TestTags(t *testing.T) {
	seen := map[api.Digest]int{}
	for tag := -600; tag < 600; tag++ {
		got := hash.Of(tag, "part")
		if got != modelOf(tag, "part") {
			t.Errorf("P2.4: the digest with the tag %d is %x", tag, got)
		}
		if other, ok := seen[got]; ok && (tag-other)%256 != 0 {
			t.Errorf("P2.6: the tags %d and %d have the same digest", other, tag)
		}
		seen[got] = tag
	}
	if len(seen) != 256 {
		t.Errorf("P2.6: %d digests for 256 tags", len(seen))
	}
}

// Digests that differ show that their inputs do.
func TestListsOfPartsAreToldApart(t *testing.T) {
	seen := map[api.Digest][]string{}
	for _, parts := range someParts() {
		got := hash.Of(api.TagClaim, parts...)
		if got != modelOf(api.TagClaim, parts...) {
			t.Errorf("P2.4: the digest of %q is %x", parts, got)
		}
		if other, ok := seen[got]; ok {
			t.Errorf("P2.6: %q and %q have the same digest", other, parts)
		}
		seen[got] = parts
	}
}

func TestManyParts(t *testing.T) {
	parts := make([]string, 500)
	for i := range parts {
		if got, want := hash.Of(3, parts[:i]...), modelOf(3, parts[:i]...); got != want {
			t.Fatalf("P2.4: the digest of %d parts is %x, not %x", i, got, want)
		}
		parts[i] = text(i % 130)
	}
}

func TestPartsAreNotChanged(t *testing.T) {
	for _, parts := range someParts() {
		whole := append(slices.Clone(parts), "behind", "them")
		before := slices.Clone(whole)
		got := hash.Of(4, whole[:len(parts)]...)
		if !slices.Equal(whole, before) {
			t.Errorf("P2.4: Of changed its parts %q", parts)
		}
		clear(whole)
		if again := hash.Of(4, before[:len(parts)]...); again != got {
			t.Errorf("P2.4: two digests of %q differ", parts)
		}
	}
}
