package hash_test

import (
	"bytes"
	"crypto/sha256"
	"encoding/hex"
	"math/rand/v2"
	"slices"
	"strings"
	"sync"
	"testing"

	"sherd/hash"
)

// lengths are those at which the padding of a message changes: the byte 128 and the length need 9 bytes of the last block.
var lengths = []int{0, 1, 2, 3, 31, 32, 33, 54, 55, 56, 57, 62, 63, 64, 65, 66, 118, 119, 120, 121, 127, 128, 129, 183, 184, 191, 192, 193, 1000}

// knownHashes are messages with their SHA-256 hashes as they are published with the standard (FIPS 180).
var knownHashes = []struct{ text, sum string }{
	{"", "e3b0c44298fc1c149afbf4c8996fb92427ae41e4649b934ca495991b7852b855"},
	{"abc", "ba7816bf8f01cfea414140de5dae2223b00361a396177a9cb410ff61f20015ad"},
	{"abcdbcdecdefdefgefghfghighijhijkijkljklmklmnlmnomnopnopq", "248d6a61d20638b8e5c026930c3e6039a33ce45964ff2167f6ecedd419db06c1"},
	{"abcdefghbcdefghicdefghijdefghijkefghijklfghijklmghijklmnhijklmnoijklmnopjklmnopqklmnopqrlmnopqrsmnopqrstnopqrstu", "cf5b16a778af8380036ce59e7b0492370b249b11e8f07a51afac45037afee9d1"},
	{"\xbd", "68325720aabd7c82f30f554b313d0570c95accbb7dc4b5aae11204c08ffe732b"},
	{"\xc9\x8c\x8e\x55", "7abc22c0ae5af26ce93dbb94433a0e0b2e119d014f8e7f65bd56c61ccccd9504"},
	{strings.Repeat("\x00", 55), "02779466cdec163811d078815c633f21901413081449002f24aa3e80f0b88ef7"},
	{strings.Repeat("\x00", 56), "d4817aa5497628e7c77e6b606107042bbba3130888c5f47a375e6179be789fbb"},
	{strings.Repeat("\x00", 57), "65a16cb7861335d5ace3c60718b5052e44660726da4cd13bb745381b235a1785"},
	{strings.Repeat("\x00", 64), "f5a5fd42d16a20302798ef6ed309979b43003d2320d9f0e8ea9831a92759fb4b"},
	{strings.Repeat("\x00", 1000), "541b3e9daa09b20bf85fa273e5cbd3e80185aa4ec298e765db87742b70138a53"},
	{strings.Repeat("A", 1000), "c2e686823489ced2017f6059b8b239318b6364f6dcd835d0a519105a1eadd6e4"},
	{strings.Repeat("a", 1000000), "cdc76e5c9914fb9281a1c7e284d73e67f1809a48a497200e046d39ccc7112cd0"},
}

// text returns n bytes that do not repeat soon.
func text(n int) string {
	r := rand.New(rand.NewPCG(7, uint64(n)))
	b := make([]byte, n)
	for i := range b {
		b[i] = byte(r.Uint32())
	}
	return string(b)
}

// texts returns messages of n bytes, those among them that could be mistaken for the padding.
func texts(n int) []string {
	return []string{
		text(n),
		strings.Repeat("\x00", n),
		strings.Repeat("\x80", n),
		strings.Repeat("\xff", n),
		strings.Repeat("é", n)[:n],
	}
}

func TestKnownHashes(t *testing.T) {
	for _, x := range knownHashes {
		sum := hash.Sum([]byte(x.text))
		if got := hex.EncodeToString(sum[:]); got != x.sum {
			t.Errorf("P2.1: the hash of %.40q (%d bytes) is %s, not %s", x.text, len(x.text), got, x.sum)
		}
		sum = hash.Begin().Add(x.text).Sum()
		if got := hex.EncodeToString(sum[:]); got != x.sum {
			t.Errorf("P2.2: the hash of a stream of %.40q (%d bytes) is %s, not %s", x.text, len(x.text), got, x.sum)
		}
	}
	if hash.Sum(nil) != hash.Sum([]byte{}) || hash.Sum(nil) != hash.Begin().Sum() {
		t.Error("P2.1: the hash of no bytes is not always the same")
	}
}

func TestSumOfEveryLength(t *testing.T) {
	for n := range 700 {
		for _, x := range texts(n) {
			if got, want := hash.Sum([]byte(x)), sha256.Sum256([]byte(x)); got != want {
				t.Fatalf("P2.1: the hash of %q is %x, not %x", x, got, want)
			}
		}
	}
	for _, n := range []int{4095, 4096, 65536, 1<<20 + 55, 1<<20 + 56} {
		x := []byte(text(n))
		if got, want := hash.Sum(x), sha256.Sum256(x); got != want {
			t.Fatalf("P2.1: the hash of %d bytes is %x, not %x", n, got, want)
		}
	}
}

// A hash that overlooks a bit would still be right for most messages.
func TestEveryBitCounts(t *testing.T) {
	for _, n := range []int{1, 55, 56, 64, 130} {
		x := []byte(text(n))
		seen := map[[32]byte]bool{hash.Sum(x): true}
		for i := range 8 * n {
			x[i/8] ^= 1 << (i % 8)
			sum := hash.Sum(x)
			if seen[sum] || sum != sha256.Sum256(x) {
				t.Fatalf("P2.1: %d bytes: bit %d does not count as it should", n, i)
			}
			seen[sum] = true
			x[i/8] ^= 1 << (i % 8)
		}
	}
}

// The number of bits does not fit into 32 bits.
func TestLongMessage(t *testing.T) {
	if testing.Short() {
		t.Skip("a message of 512 MiB")
	}
	const piece, pieces = 1 << 20, 1 << 9
	x := strings.Repeat("sherd of", piece/8)
	s, model := hash.Begin(), sha256.New()
	for range pieces {
		s = s.Add(x)
		model.Write([]byte(x))
	}
	for _, tail := range []string{"", "a"} {
		s = s.Add(tail)
		model.Write([]byte(tail))
		if got := s.Sum(); !bytes.Equal(got[:], model.Sum(nil)) {
			t.Errorf("P2.2: the hash of %d bytes is %x, not %x", pieces*piece+len(tail), got, model.Sum(nil))
		}
	}
}

func TestSumLeavesItsArgument(t *testing.T) {
	for _, n := range lengths {
		// The bytes behind the slice would show a function that pads its argument in place.
		whole := []byte(text(n + 200))
		before := slices.Clone(whole)
		sum := hash.Sum(whole[:n])
		if !bytes.Equal(whole, before) {
			t.Errorf("P2.1: Sum changed its argument of %d bytes, or what is behind it", n)
		}
		for i := range whole {
			whole[i] ^= 255
		}
		if sum != sha256.Sum256(before[:n]) || hash.Sum(before[:n]) != sum {
			t.Errorf("P2.1: the hash of %d bytes depends on what happened before or after the call", n)
		}
	}
}

func TestCallsAtTheSameTime(t *testing.T) {
	var group sync.WaitGroup
	common := hash.Begin().Add(text(70))
	for k := range 8 {
		group.Go(func() {
			for n := range 200 {
				x := text(n*8 + k)
				if hash.Sum([]byte(x)) != sha256.Sum256([]byte(x)) {
					t.Errorf("P2.1: the hash of %d bytes depends on other calls", len(x))
				}
				if common.Add(x).Sum() != sha256.Sum256([]byte(text(70)+x)) {
					t.Errorf("P2.2: the hash of a stream depends on other calls")
				}
				if hash.Mac(x, x) != modelMac(x, x) || hash.Of(k, x, x) != modelOf(k, x, x) {
					t.Errorf("P2.3, P2.4: the code or the digest of %d bytes depends on other calls", len(x))
				}
			}
		})
	}
	group.Wait()
}
