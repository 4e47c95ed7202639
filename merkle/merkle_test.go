package merkle_test

import (
	"bytes"
	"crypto/sha256"
	"math"
	"slices"
	"testing"

	"redactor/api"
	"redactor/merkle"
)

// fileSizes are files of no bytes, and ones about the ends of chunks.
var fileSizes = []int{0, 1, 2, 31, 32, 33, 63, 64, 65, 95, 96, 97, 127, 128, 129, 160, 161, 255, 256, 257, 500, 1023, 1024, 1025, api.MaxFile - 1, api.MaxFile, 3333}

// sample makes bytes that differ from chunk to chunk, with all values among them.
func sample(n int) []byte {
	b := make([]byte, n)
	for i := range b {
		b[i] = byte(i*i + 7*i + i>>8 + i>>5 + 131)
	}
	return b
}

// someHashes makes hashes that all differ.
func someHashes(n int) []api.Hash {
	list := make([]api.Hash, n)
	for i := range list {
		list[i] = sha256.Sum256([]byte{byte(i), byte(i >> 8), 77})
	}
	return list
}

func plainLeaf(chunk []byte) api.Hash {
	return sha256.Sum256(append([]byte{0}, chunk...))
}

func plainNode(left, right api.Hash) api.Hash {
	return sha256.Sum256(slices.Concat([]byte{1}, left[:], right[:]))
}

// plainRoot finds the root from below, by parts that are joined when they are of one size: not as the program does.
func plainRoot(list []api.Hash) api.Hash {
	if len(list) == 0 {
		return sha256.Sum256([]byte{2})
	}
	var parts []api.Hash
	for i, h := range list {
		parts = append(parts, h)
		for count := i + 1; count%2 == 0; count /= 2 {
			parts = joinLast(parts)
		}
	}
	for len(parts) > 1 {
		parts = joinLast(parts)
	}
	return parts[0]
}

func joinLast(parts []api.Hash) []api.Hash {
	n := len(parts)
	return append(parts[:n-2], plainNode(parts[n-2], parts[n-1]))
}

// plainLead goes up from a leaf by the bits of its place and of the last place, and tells whether the proof's size was right.
func plainLead(n, i int, leaf api.Hash, proof []api.Hash) (api.Hash, bool) {
	place, last := i, n-1
	for _, other := range proof {
		if last == 0 {
			return api.Hash{}, false
		}
		if place%2 == 1 || place == last {
			leaf = plainNode(other, leaf)
			for place%2 == 0 && place != 0 {
				place, last = place/2, last/2
			}
		} else {
			leaf = plainNode(leaf, other)
		}
		place, last = place/2, last/2
	}
	return leaf, last == 0
}

// plainDepth counts the halvings of the last place, but those at which a part has no other one beside it.
func plainDepth(n, i int) int {
	depth := 0
	for place, last := i, n-1; last > 0; place, last = place/2, last/2 {
		if place != last || place%2 == 1 {
			depth++
		}
	}
	return depth
}

// plainProof takes the proof's hashes from roots of parts that the chapter's words name.
func plainProof(list []api.Hash, i int) []api.Hash {
	if len(list) <= 1 {
		return nil
	}
	k := 1
	for 2*k < len(list) {
		k *= 2
	}
	if i < k {
		return append(plainProof(list[:k], i), plainRoot(list[k:]))
	}
	return append(plainProof(list[k:], i-k), plainRoot(list[:k]))
}

func plainLeaves(b []byte) []api.Hash {
	var list []api.Hash
	for len(b) > 0 {
		n := min(len(b), 32)
		list = append(list, plainLeaf(b[:n]))
		b = b[n:]
	}
	return list
}

func wantHash(t *testing.T, name string, got, want api.Hash) {
	t.Helper()
	if got != want {
		t.Errorf("%s: got %x, want %x", name, got, want)
	}
}

func mustProve(t *testing.T, b []byte, i int) []api.Hash {
	t.Helper()
	proof, e := merkle.Proof(b, i)
	if e != api.OK {
		t.Fatalf("Proof of chunk %d of %d bytes: error %d", i, len(b), e)
	}
	return proof
}

func TestChunksOfEverySize(t *testing.T) {
	for n := range 300 {
		b := sample(n)
		chunks := merkle.Chunks(b)
		if len(chunks) != (n+31)/32 {
			t.Fatalf("%d bytes: %d chunks", n, len(chunks))
		}
		for i, c := range chunks {
			if i < len(chunks)-1 && len(c) != 32 || len(c) < 1 || len(c) > 32 {
				t.Fatalf("%d bytes: chunk %d has %d", n, i, len(c))
			}
		}
		if !bytes.Equal(slices.Concat(chunks...), b) {
			t.Fatalf("%d bytes: the chunks aren't the file", n)
		}
	}
	if len(merkle.Chunks(nil)) != 0 || len(merkle.Chunks([]byte{})) != 0 {
		t.Error("a file of no bytes has chunks")
	}
}

func TestLeaf(t *testing.T) {
	for _, n := range fileSizes {
		b := sample(n)
		wantHash(t, "leaf", merkle.Leaf(b), plainLeaf(b))
	}
	wantHash(t, "nil", merkle.Leaf(nil), sha256.Sum256([]byte{0}))
	wantHash(t, "empty", merkle.Leaf([]byte{}), sha256.Sum256([]byte{0}))
}

func TestNode(t *testing.T) {
	h := someHashes(2)
	wantHash(t, "node", merkle.Node(h[0], h[1]), plainNode(h[0], h[1]))
	wantHash(t, "turned round", merkle.Node(h[1], h[0]), plainNode(h[1], h[0]))
	wantHash(t, "twice the same", merkle.Node(h[0], h[0]), plainNode(h[0], h[0]))
	wantHash(t, "zeros", merkle.Node(api.Hash{}, api.Hash{}), plainNode(api.Hash{}, api.Hash{}))
}

func TestOverBySmallShapes(t *testing.T) {
	h := someHashes(7)
	ab, cd, ef := plainNode(h[0], h[1]), plainNode(h[2], h[3]), plainNode(h[4], h[5])
	abcd := plainNode(ab, cd)
	for n, want := range []api.Hash{
		sha256.Sum256([]byte{2}),
		h[0],
		ab,
		plainNode(ab, h[2]),
		abcd,
		plainNode(abcd, h[4]),
		plainNode(abcd, ef),
		plainNode(abcd, plainNode(ef, h[6])),
	} {
		if got := merkle.Over(h[:n]); got != want {
			t.Errorf("%d hashes: got %x, want %x", n, got, want)
		}
	}
	wantHash(t, "nil", merkle.Over(nil), sha256.Sum256([]byte{2}))
	wantHash(t, "empty", merkle.Over([]api.Hash{}), sha256.Sum256([]byte{2}))
}

func TestOverOfEveryNumber(t *testing.T) {
	list := someHashes(1030)
	for n := range 140 {
		wantHash(t, "few", merkle.Over(list[:n]), plainRoot(list[:n]))
	}
	for _, n := range []int{255, 256, 257, 511, 512, 513, 1000, 1023, 1024, 1025, 1030} {
		wantHash(t, "many", merkle.Over(list[:n]), plainRoot(list[:n]))
	}
}

func TestOverOfLikeHashes(t *testing.T) {
	for n := range 20 {
		list := make([]api.Hash, n)
		wantHash(t, "zeros", merkle.Over(list), plainRoot(list))
	}
}

func TestRoot(t *testing.T) {
	for n := range 700 {
		b := sample(n)
		wantHash(t, "root", merkle.Root(b), plainRoot(plainLeaves(b)))
	}
	for _, n := range []int{api.MaxFile - 1, api.MaxFile, api.MaxFile + 1, 100000} {
		b := sample(n)
		wantHash(t, "great root", merkle.Root(b), plainRoot(plainLeaves(b)))
	}
	nothing := sha256.Sum256([]byte{2})
	wantHash(t, "nil", merkle.Root(nil), nothing)
	wantHash(t, "empty", merkle.Root([]byte{}), nothing)
	wantHash(t, "one chunk", merkle.Root([]byte("abc")), sha256.Sum256([]byte("\x00abc")))
}

func TestProofsHashes(t *testing.T) {
	for n := 1; n < 70; n++ {
		b := sample(32*n - n%7)
		list := plainLeaves(b)
		for i := range list {
			if got := mustProve(t, b, i); !slices.Equal(got, plainProof(list, i)) {
				t.Fatalf("proof of chunk %d of %d: got %x", i, n, got)
			}
		}
	}
}

// The order is told by hand once, so that it doesn't hang on another reckoning alone.
func TestProofGoesUp(t *testing.T) {
	b := sample(32*4 + 5)
	h := plainLeaves(b)
	ab, cd := plainNode(h[0], h[1]), plainNode(h[2], h[3])
	for i, want := range [][]api.Hash{
		{h[1], cd, h[4]},
		{h[0], cd, h[4]},
		{h[3], ab, h[4]},
		{h[2], ab, h[4]},
		{plainNode(ab, cd)},
	} {
		if got := mustProve(t, b, i); !slices.Equal(got, want) {
			t.Errorf("chunk %d: got %x, want %x", i, got, want)
		}
	}
}

func TestProofOfNoSuchChunk(t *testing.T) {
	for _, n := range fileSizes {
		b := sample(n)
		count := (n + 31) / 32
		for _, i := range []int{-1, -2, -32, math.MinInt, math.MinInt32, count, count + 1, n + 1, 1 << 30, 1<<30 + 1, math.MaxInt32, math.MaxInt} {
			proof, e := merkle.Proof(b, i)
			if i < count && i >= 0 {
				continue
			}
			if e != api.ErrArg || len(proof) != 0 {
				t.Errorf("%d bytes, chunk %d: got %x and error %d", n, i, proof, e)
			}
		}
	}
	for _, b := range [][]byte{nil, {}} {
		if proof, e := merkle.Proof(b, 0); e != api.ErrArg || len(proof) != 0 {
			t.Errorf("no bytes: got %x and error %d", proof, e)
		}
	}
}

func TestDepthOfSmallNumbers(t *testing.T) {
	for n := range 300 {
		for i := range n {
			if got, want := merkle.Depth(n, i), plainDepth(n, i); got != want {
				t.Fatalf("Depth(%d, %d): got %d, want %d", n, i, got, want)
			}
		}
	}
}

func TestDepthAtTheEdges(t *testing.T) {
	const most = 1 << 30
	for _, c := range []struct{ n, i, want int }{
		{3, 2, 1}, {3, 0, 2}, {3, 1, 2}, {1, 0, 0}, {2, 0, 1}, {2, 1, 1},
		{0, 0, -1}, {1, 1, -1}, {1, -1, -1}, {0, -1, -1}, {-1, -2, -1}, {-1, 0, -1}, {-5, -5, -1},
		{5, 5, -1}, {5, 6, -1}, {5, math.MaxInt, -1}, {5, math.MinInt, -1},
		{math.MinInt, math.MinInt, -1}, {math.MinInt, 0, -1}, {math.MinInt, math.MaxInt, -1},
		{most, 0, 30}, {most, most - 1, 30}, {most, most / 2, 30}, {most, most, -1}, {most, -1, -1},
		{most - 1, 0, 30}, {most - 1, most - 2, 29}, {most - 1, most - 1, -1},
		{most/2 + 1, most / 2, 1}, {most/2 + 1, 0, 30}, {most / 2, 7, 29},
		{most + 1, 0, -1}, {most + 1, most, -1}, {most + 1, 5, -1},
		{math.MaxInt32, 0, -1}, {math.MaxInt, 0, -1}, {math.MaxInt, math.MaxInt - 1, -1}, {math.MaxInt, math.MaxInt, -1},
	} {
		if got := merkle.Depth(c.n, c.i); got != c.want {
			t.Errorf("Depth(%d, %d): got %d, want %d", c.n, c.i, got, c.want)
		}
	}
}

func TestEachProofIsChecked(t *testing.T) {
	for _, n := range fileSizes {
		b := sample(n)
		chunks, root := merkle.Chunks(b), merkle.Root(b)
		for i, c := range chunks {
			proof := mustProve(t, b, i)
			if len(proof) != merkle.Depth(len(chunks), i) || !merkle.Check(root, len(chunks), i, c, proof) {
				t.Errorf("%d bytes: the proof of chunk %d isn't checked", n, i)
			}
		}
	}
}

func TestFilesOfLikeChunks(t *testing.T) {
	for n := 1; n < 12; n++ {
		b := bytes.Repeat([]byte("x"), 32*n)
		chunks, root := merkle.Chunks(b), merkle.Root(b)
		for i, c := range chunks {
			if !merkle.Check(root, n, i, c, mustProve(t, b, i)) {
				t.Errorf("chunk %d of %d like ones isn't checked", i, n)
			}
		}
	}
}

// wantOnlyRight sees that of a file's proofs only the right one is checked, and none that differs at one spot.
func wantOnlyRight(t *testing.T, b []byte, i int) {
	t.Helper()
	chunks, root, proof := merkle.Chunks(b), merkle.Root(b), mustProve(t, b, i)
	n, chunk := len(chunks), chunks[i]
	check := func() bool { return merkle.Check(root, n, i, chunk, proof) }
	refuse := func(what string, at int) {
		if check() {
			t.Errorf("chunk %d of %d: checked with %s %d another one", i, n, what, at)
		}
	}
	for k := range chunk {
		chunk[k] ^= 1
		refuse("the chunk's byte", k)
		chunk[k] ^= 1
	}
	for k := range root {
		root[k] ^= 128
		refuse("the root's byte", k)
		root[k] ^= 128
	}
	for p := range proof {
		for k := range proof[p] {
			proof[p][k] ^= 16
			refuse("the proof's byte", 32*p+k)
			proof[p][k] ^= 16
		}
	}
	if !check() {
		t.Errorf("chunk %d of %d: isn't checked", i, n)
	}
}

func TestWithAnotherByte(t *testing.T) {
	for n := 1; n < 14; n++ {
		b := sample(32*n - n%5)
		for i := range n {
			wantOnlyRight(t, b, i)
		}
	}
}

func TestAtAnotherPlace(t *testing.T) {
	for n := 1; n < 20; n++ {
		b := sample(32 * n)
		chunks, root := merkle.Chunks(b), merkle.Root(b)
		for i, c := range chunks {
			proof := mustProve(t, b, i)
			for j := -3; j < n+3; j++ {
				if got := merkle.Check(root, n, j, c, proof); got != (i == j) {
					t.Errorf("chunk %d of %d, held to be at %d: %v", i, n, j, got)
				}
			}
			for j, other := range chunks {
				if got := merkle.Check(root, n, i, other, proof); got != (i == j) {
					t.Errorf("chunk %d of %d, with chunk %d: %v", i, n, j, got)
				}
			}
		}
	}
}

// With another number of leaves the same hashes may lead the same way: then, and only then, they are checked.
func TestWithAnotherNumber(t *testing.T) {
	for n := 1; n < 18; n++ {
		b := sample(32 * n)
		chunks, root := merkle.Chunks(b), merkle.Root(b)
		for i, c := range chunks {
			proof := mustProve(t, b, i)
			for m := i + 1; m < 40; m++ {
				led, fits := plainLead(m, i, plainLeaf(c), proof)
				if got := merkle.Check(root, m, i, c, proof); got != (fits && led == root) {
					t.Errorf("chunk %d of %d, held to be of %d: %v", i, n, m, got)
				}
			}
		}
	}
	b := sample(96)
	c, proof := merkle.Chunks(b)[2], mustProve(t, b, 2)
	if merkle.Check(merkle.Root(b), 4, 2, c, proof) || !merkle.Check(merkle.Root(b), 2, 1, c, proof) {
		t.Error("the last of three, held to be another one")
	}
}

func TestWithAHashMoreOrLess(t *testing.T) {
	for n := 1; n < 20; n++ {
		b := sample(32*n - 3)
		chunks, root := merkle.Chunks(b), merkle.Root(b)
		for i, c := range chunks {
			proof := mustProve(t, b, i)
			wrong := [][]api.Hash{
				append(slices.Clone(proof), root),
				append(slices.Clone(proof), api.Hash{}),
				append([]api.Hash{merkle.Leaf(c)}, proof...),
				slices.Concat(proof, someHashes(40)),
			}
			if len(proof) > 0 {
				wrong = append(wrong, nil, proof[1:], proof[:len(proof)-1], slices.Concat(proof, proof))
			}
			if len(proof) > 1 {
				turned := slices.Clone(proof)
				slices.Reverse(turned)
				wrong = append(wrong, turned)
			}
			for k, p := range wrong {
				if merkle.Check(root, n, i, c, p) {
					t.Errorf("chunk %d of %d: checked with the wrong proof %d", i, n, k)
				}
			}
		}
	}
}

// A hash more or less is refused for its number alone, even where the hashes lead to the root that is named.
func TestTheNumberOfHashesCounts(t *testing.T) {
	h := someHashes(3)
	chunk := []byte("abc")
	leaf := plainLeaf(chunk)
	two := plainNode(leaf, h[0])
	three := plainNode(two, h[1])
	if merkle.Check(three, 2, 0, chunk, h[:2]) || merkle.Check(two, 4, 0, chunk, h[:1]) || merkle.Check(leaf, 2, 0, chunk, nil) {
		t.Error("checked with a hash more or less")
	}
	if !merkle.Check(leaf, 1, 0, chunk, nil) || !merkle.Check(two, 2, 0, chunk, h[:1]) || !merkle.Check(three, 4, 0, chunk, h[:2]) {
		t.Error("not checked with as many hashes as there are")
	}
}

func TestCheckOfWhatIsNotThere(t *testing.T) {
	b := sample(40)
	chunks, root := merkle.Chunks(b), merkle.Root(b)
	proof := mustProve(t, b, 1)
	great := []int{math.MinInt, math.MinInt + 1, math.MinInt32, -1 << 30, -2, -1, 0, 1, 2, 3, 4, 1 << 30, 1<<30 + 1, 1<<31 + 2, math.MaxInt - 1, math.MaxInt}
	for _, n := range great {
		for _, i := range great {
			if got := merkle.Check(root, n, i, chunks[1], proof); got != (n == 2 && i == 1 || n == 3 && i == 2) {
				t.Errorf("the last of two, held to be %d of %d: %v", i, n, got)
			}
			if n > i && i >= 0 && n <= 1<<30 {
				continue
			}
			for _, p := range [][]api.Hash{nil, {}, proof, someHashes(30)} {
				if merkle.Check(root, n, i, nil, p) || merkle.Check(root, n, i, chunks[0], p) {
					t.Errorf("checked at %d of %d", i, n)
				}
			}
		}
	}
	nothing := merkle.Root(nil)
	if merkle.Check(nothing, 0, 0, nil, nil) || merkle.Check(nothing, 1, 0, nil, nil) || merkle.Check(api.Hash{}, 0, 0, nil, nil) {
		t.Error("checked of a file of no bytes")
	}
}

func TestCheckOfGreatNumbers(t *testing.T) {
	const most = 1 << 30
	chunk := []byte("one of very many")
	for _, c := range []struct{ n, i int }{
		{most, 0}, {most, most - 1}, {most, 123456789}, {most - 1, most - 2}, {most - 1, 987654321},
		{most/2 + 1, most / 2}, {most/2 + 1, 0}, {1000003, 1000002}, {1000003, 999999}, {1<<20 + 3, 1<<20 + 1},
	} {
		proof := someHashes(merkle.Depth(c.n, c.i))
		root, fits := plainLead(c.n, c.i, plainLeaf(chunk), proof)
		if !fits || !merkle.Check(root, c.n, c.i, chunk, proof) {
			t.Errorf("%d of %d: not checked", c.i, c.n)
		}
		proof[len(proof)-1][31] ^= 1
		if merkle.Check(root, c.n, c.i, chunk, proof) {
			t.Errorf("%d of %d: checked with another hash", c.i, c.n)
		}
	}
	proof := someHashes(31)
	root, _ := plainLead(2*most, 0, plainLeaf(chunk), proof)
	if merkle.Check(root, 2*most, 0, chunk, proof) {
		t.Error("checked beyond the greatest number")
	}
}

// A chunk may have any size where a proof is checked: the promise asks for its leaf alone.
func TestCheckOfChunksOfAnySize(t *testing.T) {
	other := someHashes(1)
	for _, n := range fileSizes {
		chunk := sample(n)
		if !merkle.Check(plainLeaf(chunk), 1, 0, chunk, nil) || !merkle.Check(plainNode(other[0], plainLeaf(chunk)), 2, 1, chunk, other) {
			t.Errorf("a chunk of %d bytes isn't checked", n)
		}
	}
}

// Without the tags a node's two hashes would be a chunk with the node's own hash.
func TestOneKindIsNotTakenForAnother(t *testing.T) {
	b := sample(64)
	root, leaves := merkle.Root(b), plainLeaves(b)
	both := slices.Concat(leaves[0][:], leaves[1][:])
	if merkle.Check(root, 1, 0, both, nil) || merkle.Root(both) == root || merkle.Leaf(both) == root {
		t.Error("a node was taken for a leaf")
	}
	if merkle.Leaf(nil) == merkle.Over(nil) || merkle.Leaf([]byte{2}) == merkle.Over(nil) {
		t.Error("nothing was taken for a leaf")
	}
	if merkle.Root(append([]byte{0}, b...)) == root || merkle.Root(append(b, 0)) == root {
		t.Error("a nought more leaves the root as it is")
	}
}

// withRoom answers bytes with spare room behind them, and all of that memory.
func withRoom(n int) (b, whole []byte) {
	whole = sample(n + 80)
	return whole[:n], whole
}

func TestWhatIsHandedInStaysAsItIs(t *testing.T) {
	for _, n := range fileSizes {
		b, whole := withRoom(n)
		before := bytes.Clone(whole)
		merkle.Chunks(b)
		merkle.Leaf(b)
		root := merkle.Root(b)
		for i := -1; i <= n/32+1; i++ {
			proof, _ := merkle.Proof(b, i)
			merkle.Check(root, (n+31)/32, i, b, proof)
			merkle.Check(root, (n+31)/32, i, b[:min(n, 32)], proof)
		}
		if !bytes.Equal(whole, before) {
			t.Errorf("%d bytes: what was handed in was changed", n)
		}
	}
}

func TestListsHandedInStayAsTheyAre(t *testing.T) {
	whole := someHashes(60)
	before := slices.Clone(whole)
	for n := range 40 {
		merkle.Over(whole[:n])
	}
	for n := range 40 {
		for i := range n {
			merkle.Check(whole[50], n, i, []byte("abc"), whole[:merkle.Depth(n, i)])
			merkle.Check(whole[50], n, i, []byte("abc"), whole[:n])
		}
	}
	merkle.Node(whole[0], whole[1])
	if !slices.Equal(whole, before) {
		t.Error("a list that was handed in was changed")
	}
}

// spoil writes over all of a list's memory, its spare room too.
func spoil[T any](list []T, with T) {
	for i := range list[:cap(list)] {
		list[:cap(list)][i] = with
	}
}

func TestChunksShareNoMemory(t *testing.T) {
	for _, n := range fileSizes {
		b, whole := withRoom(n)
		before := bytes.Clone(whole)
		chunks := merkle.Chunks(b)
		again := merkle.Chunks(b)
		for i := range chunks {
			spoil(chunks[i], 0xee)
			for j := i + 1; j < len(chunks); j++ {
				if !bytes.Equal(chunks[j], again[j]) {
					t.Fatalf("%d bytes: chunks %d and %d share memory", n, i, j)
				}
			}
		}
		spoil(chunks, nil)
		if !bytes.Equal(whole, before) || !bytes.Equal(slices.Concat(again...), b) {
			t.Errorf("%d bytes: chunks share memory with the file or with another answer", n)
		}
		spoil(whole, 0x11)
		if !bytes.Equal(slices.Concat(again...), before[:n]) {
			t.Errorf("%d bytes: the file was kept in its chunks", n)
		}
	}
}

func TestProofsShareNoMemory(t *testing.T) {
	for _, n := range fileSizes {
		b := sample(n)
		list := plainLeaves(b)
		for i := range list {
			first, second := mustProve(t, b, i), mustProve(t, b, i)
			spoil(first, api.Hash{1})
			want := plainProof(list, i)
			if !slices.Equal(second, want) || !slices.Equal(mustProve(t, b, i), want) {
				t.Errorf("%d bytes: two proofs of chunk %d share memory", n, i)
			}
		}
	}
}

// The same memory with other bytes in it is another file: nothing of the first may be kept.
func TestNothingIsKept(t *testing.T) {
	b := sample(150)
	root, leaf := merkle.Root(b), merkle.Leaf(b)
	proof := mustProve(t, b, 2)
	list := plainLeaves(b)
	over := merkle.Over(list)
	spoil(b, 0x33)
	changed := plainLeaves(b)
	wantHash(t, "Root anew", merkle.Root(b), plainRoot(changed))
	wantHash(t, "Leaf anew", merkle.Leaf(b), plainLeaf(b))
	if !slices.Equal(mustProve(t, b, 2), plainProof(changed, 2)) {
		t.Error("Proof anew")
	}
	copied := slices.Clone(list)
	spoil(list, api.Hash{5})
	wantHash(t, "Over anew", merkle.Over(list), plainRoot(list))
	wantHash(t, "Root", root, plainRoot(copied))
	wantHash(t, "Over", over, plainRoot(copied))
	wantHash(t, "Leaf", leaf, plainLeaf(sample(150)))
	if !slices.Equal(proof, plainProof(copied, 2)) {
		t.Error("Proof")
	}
}

func TestNilAndEmptyMeanTheSame(t *testing.T) {
	wantHash(t, "Leaf", merkle.Leaf(nil), merkle.Leaf([]byte{}))
	wantHash(t, "Over", merkle.Over(nil), merkle.Over([]api.Hash{}))
	wantHash(t, "Root", merkle.Root(nil), merkle.Root([]byte{}))
	root := merkle.Leaf(nil)
	for _, chunk := range [][]byte{nil, {}} {
		for _, proof := range [][]api.Hash{nil, {}} {
			if !merkle.Check(root, 1, 0, chunk, proof) || merkle.Check(root, 2, 0, chunk, proof) {
				t.Errorf("chunk %v, proof %v", chunk, proof)
			}
		}
	}
}

func TestAskedTwiceIsAnsweredTheSame(t *testing.T) {
	for _, n := range fileSizes {
		b := sample(n)
		root := merkle.Root(b)
		merkle.Root(sample(n + 50))
		wantHash(t, "Root", merkle.Root(b), root)
		wantHash(t, "Over", merkle.Over(plainLeaves(b)), root)
	}
}
