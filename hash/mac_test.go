package hash_test

import (
	"crypto/hmac"
	"crypto/sha256"
	"encoding/hex"
	"strings"
	"testing"

	"sherd/hash"
)

// modelMac returns the code of a text, by the model.
func modelMac(key, text string) string {
	m := hmac.New(sha256.New, []byte(key))
	m.Write([]byte(text))
	return string(m.Sum(nil))
}

// knownCodes are the examples of the chapter and those of RFC 4231.
var knownCodes = []struct{ key, text, code string }{
	{"Jefe", "what do ya want for nothing?", "5bdcc146bf60754e6a042426089575c75a003f089d2739839dec58b964ec3843"},
	{"", "", "b613679a0814d9ec772f95d778c35fc5ff1697c493715653c6c712144292c5ad"},
	{strings.Repeat("\x0b", 20), "Hi There", "b0344c61d8db38535ca8afceaf0bf12b881dc200c9833da726e9376c2e32cff7"},
	{strings.Repeat("\xaa", 20), strings.Repeat("\xdd", 50), "773ea91e36800e46854db8ebd09181a72959098b3ef8c122d9635514ced565fe"},
	{"\x01\x02\x03\x04\x05\x06\x07\x08\x09\x0a\x0b\x0c\x0d\x0e\x0f\x10\x11\x12\x13\x14\x15\x16\x17\x18\x19", strings.Repeat("\xcd", 50), "82558a389a443c0ea4cc819899f2083a85f0faa3e578f8077a2e3ff46729665b"},
	{strings.Repeat("\xaa", 131), "Test Using Larger Than Block-Size Key - Hash Key First", "60e431591ee0b67f0d8a26aacbf5b77f8e0bc6213728c5140546040f0ee37f54"},
	{strings.Repeat("\xaa", 131), "This is a test using a larger than block-size key and a larger than block-size data. The key needs to be hashed before being used by the HMAC algorithm.", "9b09ffa71b942fcb27635fbcd5b0e944bfdc63644f0713938a7f51535c3a35e2"},
}

func TestKnownCodes(t *testing.T) {
	for _, x := range knownCodes {
		if got := hex.EncodeToString([]byte(hash.Mac(x.key, x.text))); got != x.code {
			t.Errorf("P2.3: the code of %q under %q is %s, not %s", x.text, x.key, got, x.code)
		}
	}
}

func TestCodesOfEveryLength(t *testing.T) {
	for n := range 200 {
		for _, key := range texts(n) {
			for _, k := range lengths {
				if got, want := hash.Mac(key, text(k)), modelMac(key, text(k)); got != want {
					t.Fatalf("P2.3: the code of %d bytes under %q is %x, not %x", k, key, got, want)
				}
			}
		}
	}
}

// wording follows P2.3 word by word, for a key of at most 64 bytes.
func wording(key, text string) string {
	key += strings.Repeat("\x00", 64-len(key))
	var i, o []byte
	for _, x := range []byte(key) {
		i = append(i, x^54)
		o = append(o, x^92)
	}
	inner := sha256.Sum256([]byte(string(i) + text))
	outer := sha256.Sum256([]byte(string(o) + string(inner[:])))
	return string(outer[:])
}

func TestKeysAreShortenedAndExtended(t *testing.T) {
	const message = "a rim"
	for n := range 65 {
		key := text(n)
		if hash.Mac(key, message) != wording(key, message) {
			t.Errorf("P2.3: a key of %d bytes is not used as it is", n)
		}
		if n < 64 && hash.Mac(key, message) != hash.Mac(key+"\x00", message) {
			t.Errorf("P2.3: a key of %d bytes is not extended by zero bytes", n)
		}
	}
	for _, n := range []int{65, 66, 100, 128, 129, 5000} {
		key := text(n)
		short := sha256.Sum256([]byte(key))
		if hash.Mac(key, message) != wording(string(short[:]), message) {
			t.Errorf("P2.3: a key of %d bytes is not replaced by its hash", n)
		}
	}
	if key := text(63) + "\x00"; hash.Mac(key, message) == hash.Mac(key+"\x00", message) {
		t.Error("P2.3: a key of 65 bytes is cut, not hashed")
	}
}

func TestKeysAndTextsAreApart(t *testing.T) {
	key := text(70)
	codes := []string{
		hash.Mac(key, "ab"), hash.Mac(key+"a", "b"), hash.Mac("ab", key), hash.Mac("", key+"ab"),
		hash.Mac(key, ""), hash.Mac("", key), hash.Mac("a", "b"), hash.Mac("ab", ""), hash.Mac("", "ab"), hash.Mac("b", "a"),
	}
	seen := map[string]bool{}
	for i, c := range codes {
		if len(c) != 32 || seen[c] {
			t.Errorf("P2.3: code %d is not a new one of 32 bytes: %x", i, c)
		}
		seen[c] = true
	}
}
