package sha_test

import (
	"bytes"
	"crypto/sha256"
	"encoding/hex"
	"slices"
	"testing"

	"redactor/api"
	"redactor/sha"
)

// edgeLengths are the lengths about the ends of blocks, where the padding changes its size.
var edgeLengths = []int{0, 1, 54, 55, 56, 57, 62, 63, 64, 65, 118, 119, 120, 121, 126, 127, 128, 129, 191, 192, 193}

// sample makes bytes that differ from block to block, with all values among them.
func sample(n int) []byte {
	b := make([]byte, n)
	for i := range b {
		b[i] = byte(i*i + 7*i + i>>8 + 131)
	}
	return b
}

func wantHash(t *testing.T, name string, got, want api.Hash) {
	t.Helper()
	if got != want {
		t.Errorf("%s: got %x, want %x", name, got, want)
	}
}

func hashOfHex(t *testing.T, s string) api.Hash {
	t.Helper()
	b, err := hex.DecodeString(s)
	if err != nil || len(b) != len(api.Hash{}) {
		t.Fatalf("bad hash %q in the test", s)
	}
	return api.Hash(b)
}

func TestSumOfKnownTexts(t *testing.T) {
	for _, c := range []struct{ text, want string }{
		{"", "e3b0c44298fc1c149afbf4c8996fb92427ae41e4649b934ca495991b7852b855"},
		{"abc", "ba7816bf8f01cfea414140de5dae2223b00361a396177a9cb410ff61f20015ad"},
		{"The quick brown fox jumps over the lazy dog", "d7a8fbb307d7809469ca9abcb0082e4f8d5651e46d3cdb762d02d0bf37c9e592"},
		{"abcdbcdecdefdefgefghfghighijhijkijkljklmklmnlmnomnopnopq", "248d6a61d20638b8e5c026930c3e6039a33ce45964ff2167f6ecedd419db06c1"},
		{"abcdefghbcdefghicdefghijdefghijkefghijklfghijklmghijklmnhijklmnoijklmnopjklmnopqklmnopqrlmnopqrsmnopqrstnopqrstu", "cf5b16a778af8380036ce59e7b0492370b249b11e8f07a51afac45037afee9d1"},
	} {
		wantHash(t, c.text, sha.Sum([]byte(c.text)), hashOfHex(t, c.want))
	}
	wantHash(t, "nil", sha.Sum(nil), sha.Sum([]byte{}))
}

func TestSumAtEveryLength(t *testing.T) {
	b := sample(1100)
	for n := range len(b) + 1 {
		if got, want := sha.Sum(b[:n]), sha256.Sum256(b[:n]); got != want {
			t.Fatalf("%d bytes: got %x, want %x", n, got, want)
		}
	}
}

func TestSumOfLikeBytes(t *testing.T) {
	for _, n := range edgeLengths {
		for _, c := range []byte{0, 1, 127, 128, 255} {
			b := bytes.Repeat([]byte{c}, n)
			if got, want := sha.Sum(b), sha256.Sum256(b); got != want {
				t.Errorf("%d times byte %d: got %x, want %x", n, c, got, want)
			}
		}
	}
}

func TestSumOfEachFlippedBit(t *testing.T) {
	b := sample(65)
	for i := range len(b) * 8 {
		b[i/8] ^= 1 << (i % 8)
		if got, want := sha.Sum(b), sha256.Sum256(b); got != want {
			t.Fatalf("bit %d: got %x, want %x", i, got, want)
		}
	}
}

// The count of bits takes more than two and more than three of its eight bytes here.
func TestSumOfLongBytes(t *testing.T) {
	for _, n := range []int{8191, 8192, 8193, 65536, 1<<21 - 1, 1 << 21, 1<<21 + 1} {
		b := sample(n)
		if got, want := sha.Sum(b), sha256.Sum256(b); got != want {
			t.Errorf("%d bytes: got %x, want %x", n, got, want)
		}
	}
}

func TestOfNothing(t *testing.T) {
	want := sha256.Sum256(nil)
	wantHash(t, "no parts", sha.Of(), want)
	wantHash(t, "no list", sha.Of([][]byte(nil)...), want)
	wantHash(t, "an empty list", sha.Of([][]byte{}...), want)
	wantHash(t, "a nil part", sha.Of(nil), want)
	wantHash(t, "empty parts", sha.Of(nil, []byte{}, nil), want)
}

func TestOfPartsCutAnywhere(t *testing.T) {
	b := sample(150)
	want := sha256.Sum256(b)
	for i := range len(b) + 1 {
		for j := i; j <= len(b); j++ {
			if got := sha.Of(b[:i], b[i:j], b[j:]); got != want {
				t.Fatalf("cut at %d and %d: got %x, want %x", i, j, got, want)
			}
		}
	}
}

func TestOfWithEmptyParts(t *testing.T) {
	for _, n := range edgeLengths {
		b := sample(n)
		want := sha256.Sum256(b)
		wantHash(t, "one part", sha.Of(b), want)
		wantHash(t, "empty ones about", sha.Of(nil, b[:n/2], []byte{}, nil, b[n/2:], nil), want)
		wantHash(t, "byte by byte", sha.Of(slices.Collect(slices.Chunk(b, 1))...), want)
	}
}

func TestOfKeepsTheOrder(t *testing.T) {
	wantHash(t, "ab", sha.Of([]byte("a"), []byte("b")), sha256.Sum256([]byte("ab")))
	wantHash(t, "ba", sha.Of([]byte("b"), []byte("a")), sha256.Sum256([]byte("ba")))
}

func TestNewAndZeroHaveTakenNothing(t *testing.T) {
	var zero sha.Hash
	for name, h := range map[string]*sha.Hash{"New": sha.New(), "zero": &zero} {
		if h == nil {
			t.Fatalf("%s: nil", name)
		}
		wantHash(t, name+" at first", h.Sum(), sha256.Sum256(nil))
		if h.Len() != 0 {
			t.Errorf("%s: Len %d at first", name, h.Len())
		}
		h.Write([]byte("abc"))
		wantHash(t, name, h.Sum(), sha256.Sum256([]byte("abc")))
		if h.Len() != 3 {
			t.Errorf("%s: Len %d behind abc", name, h.Len())
		}
	}
}

func TestNewOnesAreApart(t *testing.T) {
	a, b := sha.New(), sha.New()
	a.Write([]byte("abc"))
	wantHash(t, "the other", b.Sum(), sha256.Sum256(nil))
	if b.Len() != 0 {
		t.Errorf("Len %d", b.Len())
	}
}

func TestCopyGoesOnByItself(t *testing.T) {
	b := sample(100)
	h := sha.New()
	h.Write(b[:70])
	twin := *h
	h.Write([]byte("other bytes"))
	twin.Write(b[70:])
	wantHash(t, "copy", twin.Sum(), sha256.Sum256(b))
	wantHash(t, "first", h.Sum(), sha256.Sum256(append(b[:70:70], "other bytes"...)))
}

func TestWriteInPiecesOfEachSize(t *testing.T) {
	b := sample(400)
	for size := 1; size <= len(b); size++ {
		h := sha.New()
		taken := 0
		for piece := range slices.Chunk(b, size) {
			h.Write(piece)
			taken += len(piece)
			if got, want := h.Sum(), sha256.Sum256(b[:taken]); got != want || h.Len() != taken {
				t.Fatalf("pieces of %d, behind %d: got %x and %d, want %x", size, taken, got, h.Len(), want)
			}
		}
	}
}

func TestWriteInPiecesOfMixedSizes(t *testing.T) {
	b := sample(3000)
	sizes := []int{0, 1, 63, 64, 65, 0, 55, 56, 127, 128, 129, 7, 300, 0}
	asked, unasked := sha.New(), sha.New()
	at := 0
	for i := 0; at < len(b); i++ {
		end := min(len(b), at+sizes[i%len(sizes)])
		asked.Write(b[at:end])
		unasked.Write(b[at:end])
		at = end
		wantHash(t, "between", asked.Sum(), sha256.Sum256(b[:at]))
	}
	wantHash(t, "asked between", asked.Sum(), sha256.Sum256(b))
	wantHash(t, "asked at the end", unasked.Sum(), sha256.Sum256(b))
}

func TestWriteOfNothingChangesNothing(t *testing.T) {
	for _, n := range edgeLengths {
		b := sample(n)
		h := sha.New()
		h.Write(nil)
		h.Write(b)
		h.Write([]byte{})
		h.Write(nil)
		wantHash(t, "empty pieces", h.Sum(), sha256.Sum256(b))
		if h.Len() != n {
			t.Errorf("Len %d, want %d", h.Len(), n)
		}
	}
}

func TestSumChangesNothing(t *testing.T) {
	for _, n := range edgeLengths {
		b := sample(n)
		h := sha.New()
		h.Write(b)
		before := *h
		for range 3 {
			wantHash(t, "again", h.Sum(), sha256.Sum256(b))
		}
		if *h != before || h.Len() != n {
			t.Errorf("Sum behind %d bytes changed the Hash", n)
		}
		h.Write([]byte("more"))
		wantHash(t, "more", h.Sum(), sha256.Sum256(append(b, "more"...)))
	}
}

func TestReset(t *testing.T) {
	h := sha.New()
	for _, n := range edgeLengths {
		b := sample(n)
		h.Write(b)
		wantHash(t, "taken", h.Sum(), sha256.Sum256(b))
		h.Reset()
		wantHash(t, "reset", h.Sum(), sha256.Sum256(nil))
		if h.Len() != 0 {
			t.Errorf("Len %d behind Reset", h.Len())
		}
		h.Reset()
		wantHash(t, "reset twice", h.Sum(), sha256.Sum256(nil))
	}
	var zero sha.Hash
	zero.Reset()
	zero.Write([]byte("abc"))
	wantHash(t, "zero", zero.Sum(), sha256.Sum256([]byte("abc")))
}

func TestNilHash(t *testing.T) {
	var h *sha.Hash
	check := func(behind string) {
		wantHash(t, behind, h.Sum(), api.Hash{})
		if h.Len() != 0 {
			t.Errorf("%s: Len %d", behind, h.Len())
		}
	}
	check("nothing")
	h.Write(nil)
	h.Write([]byte("abc"))
	check("Write")
	h.Reset()
	check("Reset")
}

// withRoom answers bytes with spare room behind them, and all of that memory.
func withRoom(n int) (b, whole []byte) {
	whole = sample(n + 80)
	return whole[:n], whole
}

func TestWhatIsHandedInStaysAsItIs(t *testing.T) {
	for _, n := range edgeLengths {
		b, whole := withRoom(n)
		before := bytes.Clone(whole)
		sha.Sum(b)
		parts := [][]byte{b[:n/2], nil, b[n/2:]}
		sha.Of(parts...)
		h := sha.New()
		h.Write(b)
		h.Write(b[:n/2])
		h.Sum()
		h.Reset()
		if !bytes.Equal(whole, before) {
			t.Errorf("%d bytes: what was handed in was changed", n)
		}
		if !bytes.Equal(parts[0], before[:n/2]) || parts[1] != nil || !bytes.Equal(parts[2], before[n/2:n]) {
			t.Errorf("%d bytes: the list of parts was changed", n)
		}
	}
}

func TestWhatIsHandedInIsNotKept(t *testing.T) {
	for _, n := range edgeLengths {
		b := sample(n)
		want := sha256.Sum256(b)
		h := sha.New()
		h.Write(b)
		sum, of := sha.Sum(b), sha.Of(b[:n/2], b[n/2:])
		for i := range b {
			b[i] ^= 255
		}
		wantHash(t, "Write", h.Sum(), want)
		wantHash(t, "Sum", sum, want)
		wantHash(t, "Of", of, want)
		h.Write([]byte("more"))
		wantHash(t, "more", h.Sum(), sha256.Sum256(append(sample(n), "more"...)))
		wantHash(t, "Sum anew", sha.Sum(b), sha256.Sum256(b))
	}
}

// One buffer for all pieces is how a caller would see that a piece was kept.
func TestOneBufferForAllPieces(t *testing.T) {
	b := sample(500)
	buffer := make([]byte, 33)
	h := sha.New()
	for piece := range slices.Chunk(b, len(buffer)) {
		h.Write(buffer[:copy(buffer, piece)])
		clear(buffer)
	}
	wantHash(t, "one buffer", h.Sum(), sha256.Sum256(b))
}
