package hash_test

import (
	"crypto/sha256"
	"math/rand/v2"
	"slices"
	"testing"

	"sherd/hash"
)

// sumOf returns the hash of a message, by the model.
func sumOf(s string) [32]byte { return sha256.Sum256([]byte(s)) }

func TestExampleOfStream(t *testing.T) {
	if hash.Begin().Add("a").Add("bc").Sum() != hash.Sum([]byte("abc")) {
		t.Error("P2.2: a and bc are not abc")
	}
	if hash.Begin().Sum() != sumOf("") || hash.Begin().Add("").Sum() != sumOf("") {
		t.Error("P2.2: the message of a new stream is not empty")
	}
}

func TestTwoPieces(t *testing.T) {
	for n := range 200 {
		x := text(n)
		want := sumOf(x)
		for i := range n + 1 {
			if hash.Begin().Add(x[:i]).Add(x[i:]).Sum() != want {
				t.Fatalf("P2.6: %d bytes: the hash depends on the cut at %d", n, i)
			}
		}
	}
}

func TestThreePieces(t *testing.T) {
	for _, n := range lengths {
		x := text(n)
		want := sumOf(x)
		for _, i := range lengths {
			for _, j := range lengths {
				if i+j > n {
					continue
				}
				if hash.Begin().Add(x[:i]).Add(x[i:i+j]).Add(x[i+j:]).Sum() != want {
					t.Fatalf("P2.6: %d bytes: the hash depends on the cuts at %d and %d", n, i, i+j)
				}
			}
		}
	}
}

func TestManyPieces(t *testing.T) {
	r := rand.New(rand.NewPCG(1, 2))
	for _, longest := range []int{1, 2, 3, 63, 64, 65, 200, 1000} {
		for range 20 {
			x := text(r.IntN(3000))
			s := hash.Begin()
			for rest := x; rest != ""; {
				n := min(len(rest), r.IntN(longest+1)) // some pieces are empty
				s = s.Add(rest[:n])
				rest = rest[n:]
			}
			if s.Sum() != sumOf(x) {
				t.Fatalf("P2.6: %d bytes: the hash depends on pieces of up to %d bytes", len(x), longest)
			}
		}
	}
}

func TestEmptyPieces(t *testing.T) {
	for _, n := range lengths {
		x := text(n)
		s := hash.Begin().Add("").Add(x).Add("").Add("")
		if s.Sum() != sumOf(x) {
			t.Errorf("P2.6: an empty piece changes the hash of %d bytes", n)
		}
	}
}

// Sum pads the message; the stream must be able to go on as if it had not been called.
func TestSumLeavesItsStream(t *testing.T) {
	for _, n := range lengths {
		x, y := text(n), text(n+1)
		s := hash.Begin().Add(x)
		first := s.Sum()
		if second := s.Sum(); first != sumOf(x) || second != first {
			t.Errorf("P2.2: %d bytes: a second Sum differs", n)
		}
		if s.Add(y).Sum() != sumOf(x+y) {
			t.Errorf("P2.2: %d bytes: Sum changed the stream", n)
		}
	}
}

func TestAddLeavesItsStream(t *testing.T) {
	for _, n := range lengths {
		x := text(n)
		s := hash.Begin().Add(x)
		same := s
		for _, k := range lengths {
			if s.Add(text(k)).Sum() != sumOf(x+text(k)) {
				t.Errorf("P2.2: %d and %d bytes: a stream that was continued before gives another hash", n, k)
			}
			if s != same || s.Sum() != sumOf(x) {
				t.Fatalf("P2.2: Add of %d bytes changed a stream of %d bytes", k, n)
			}
		}
	}
}

// Streams that continue the same one are added to by turns, so that memory that they share would show.
func TestBranches(t *testing.T) {
	for _, n := range lengths {
		root := hash.Begin().Add(text(n))
		streams := make([]hash.Stream, 5)
		messages := make([]string, len(streams))
		for i := range streams {
			streams[i], messages[i] = root, text(n)
		}
		for round := range 40 {
			for i := range streams {
				piece := text(round + 7*i)
				streams[i] = streams[i].Add(piece)
				messages[i] += piece
			}
		}
		for i, s := range streams {
			if s.Sum() != sumOf(messages[i]) {
				t.Errorf("P2.2: stream %d of those that continue one of %d bytes has another hash", i, n)
			}
		}
		if root.Sum() != sumOf(text(n)) {
			t.Errorf("P2.2: a stream of %d bytes was changed by those that continue it", n)
		}
	}
}

// Every stream of a tree of messages is kept, and looked at only when all of them exist.
func TestTreeOfStreams(t *testing.T) {
	streams, messages := []hash.Stream{hash.Begin()}, []string{""}
	for i := 0; len(streams) < 2000; i++ {
		for _, piece := range []string{"x", text(31)} {
			streams = append(streams, streams[i].Add(piece))
			messages = append(messages, messages[i]+piece)
		}
	}
	for i, s := range streams {
		if s.Sum() != sumOf(messages[i]) {
			t.Fatalf("P2.2: the stream of %q has another hash", messages[i])
		}
	}
}

func TestSumIsNewMemory(t *testing.T) {
	s := hash.Begin().Add("rim")
	first := s.Sum()
	slices.Reverse(first[:])
	if s.Sum() != sumOf("rim") {
		t.Error("P2.2: a change of a hash changes its stream")
	}
}

// The hash of the zero stream is not specified, but no call may panic (P1).
func TestZeroStream(t *testing.T) {
	for _, n := range lengths {
		var s hash.Stream
		s.Add(text(n)).Add(text(n)).Sum()
	}
}
