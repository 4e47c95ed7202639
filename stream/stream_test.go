package stream_test

import (
	"bytes"
	"crypto/sha256"
	"encoding/binary"
	"encoding/hex"
	"fmt"
	"slices"
	"strings"
	"testing"

	"redactor/api"
	"redactor/frame"
	"redactor/stream"
)

const (
	beginSize = 6
	headSize  = 10
)

// someLengths are lengths of bodies at the edges of the length's bytes, and of what is allowed.
var someLengths = []int{0, 1, 2, 53, 54, 255, 256, 257, 511, 512, 768, 998, 999, 1000}

// sample makes bytes of all values.
func sample(n int) []byte {
	b := make([]byte, n)
	for i := range b {
		b[i] = byte(i*i + 7*i + i>>8 + 131)
	}
	return b
}

// plainFrame is a frame as layer 4's chapter has it, made by the library; it makes wrong types and lengths too.
func plainFrame(kind byte, length int, body []byte) []byte {
	label := binary.BigEndian.AppendUint16([]byte{kind}, uint16(length))
	sum := sha256.Sum256(slices.Concat(label, body))
	return slices.Concat([]byte("rd\x01"), label, sum[:4], body)
}

func rightFrame(kind byte, body string) []byte {
	return plainFrame(kind, len(body), []byte(body))
}

// spoiled is a right frame with one byte changed.
func spoiled(kind byte, body string, at int) []byte {
	b := rightFrame(kind, body)
	b[at] ^= 0x55
	return b
}

func join(parts ...[]byte) []byte { return slices.Concat(parts...) }

// state is all that can be seen of a stream: the frames that it gave out, and its two numbers.
type state struct {
	frames         []string
	dropped, waits int
}

func shown(f frame.Frame) string { return fmt.Sprintf("%d:%x", f.Type, f.Body) }

func (s state) String() string {
	short := make([]string, len(s.frames))
	for i, f := range s.frames {
		short[i] = fmt.Sprintf("%.30s(%d)", f, len(f))
	}
	return fmt.Sprintf("frames %v, %d dropped, %d wait", short, s.dropped, s.waits)
}

func (s state) is(other state) bool {
	return slices.Equal(s.frames, other.frames) && s.dropped == other.dropped && s.waits == other.waits
}

// canBegin is layer 4's Begins, by its chapter's words.
func canBegin(b []byte) bool {
	n := len(b)
	switch {
	case !strings.HasPrefix("rd\x01", string(b[:min(n, 3)])):
		return false
	case n >= 4 && b[3] == 0:
		return false
	case n == 5:
		return b[4] <= 3
	}
	return n < beginSize || binary.BigEndian.Uint16(b[4:]) <= api.MaxBody
}

// reckoned is what a stream is after these bytes, by the chapter's words, without the layers beneath.
func reckoned(b []byte) state {
	var s state
	for len(b) > 0 {
		if !canBegin(b) {
			s.dropped++
			b = b[1:]
			continue
		}
		if len(b) < headSize || len(b) < headSize+int(binary.BigEndian.Uint16(b[4:])) {
			break
		}
		end := headSize + int(binary.BigEndian.Uint16(b[4:]))
		if !bytes.Equal(b[:end], rightFrame(b[3], string(b[headSize:end]))) {
			s.dropped++
			b = b[1:]
			continue
		}
		s.frames = append(s.frames, shown(frame.Frame{Type: b[3], Body: b[headSize:end]}))
		b = b[end:]
	}
	s.waits = len(b)
	return s
}

// feeder is a stream, and what it gave out so far.
type feeder struct {
	stream stream.Stream
	frames []string
}

func (f *feeder) feed(b []byte) {
	for _, one := range f.stream.Feed(b) {
		f.frames = append(f.frames, shown(one))
	}
}

func (f *feeder) state() state {
	return state{f.frames, f.stream.Dropped(), f.stream.Waits()}
}

// fed is what a new stream is after these pieces.
func fed(pieces ...[]byte) state {
	var f feeder
	for _, piece := range pieces {
		f.feed(piece)
	}
	return f.state()
}

// wantFed sees what a new stream is after these bytes, at once and byte by byte.
func wantFed(t *testing.T, b []byte, dropped, waits int, frames ...string) {
	t.Helper()
	want := state{frames, dropped, waits}
	if got := fed(b); !got.is(want) {
		t.Errorf("%.60x (%d bytes): got %v, want %v", b, len(b), got, want)
	}
	if got := fed(slices.Collect(slices.Chunk(b, 1))...); !got.is(want) {
		t.Errorf("%.60x (%d bytes) byte by byte: got %v, want %v", b, len(b), got, want)
	}
}

// text is how a frame with this body is shown.
func text(kind byte, body string) string {
	return shown(frame.Frame{Type: kind, Body: []byte(body)})
}

// P6.1

func TestZeroStreamHasNothing(t *testing.T) {
	var s stream.Stream
	if s.Dropped() != 0 || s.Waits() != 0 {
		t.Errorf("%d dropped, %d wait", s.Dropped(), s.Waits())
	}
	for _, b := range [][]byte{nil, {}, make([]byte, 0, 50)} {
		if l := s.Feed(b); len(l) != 0 || s.Dropped() != 0 || s.Waits() != 0 {
			t.Errorf("fed with nothing: %v, %d dropped, %d wait", l, s.Dropped(), s.Waits())
		}
	}
}

func TestNilStream(t *testing.T) {
	var s *stream.Stream
	for _, b := range [][]byte{nil, []byte("junk"), []byte("rd"), rightFrame(1, "one")} {
		if l := s.Feed(b); len(l) != 0 || s.Dropped() != 0 || s.Waits() != 0 {
			t.Errorf("%x: %v, %d dropped, %d wait", b, l, s.Dropped(), s.Waits())
		}
	}
}

func TestKnownFrames(t *testing.T) {
	for _, c := range []struct{ bytes, frame string }{
		{"7264010700050d8c445c68656c6c6f", "7:68656c6c6f"},
		{"726401010000fb50dc07", "1:"},
		{"726401ff00007fa54a42", "255:"},
		{"726401040003f89b7cb2726401", "4:726401"},
	} {
		b, err := hex.DecodeString(c.bytes)
		if err != nil {
			t.Fatalf("bad bytes %q in the test", c.bytes)
		}
		wantFed(t, b, 0, 0, c.frame)
	}
}

func TestFramesOfEveryType(t *testing.T) {
	for kind := 1; kind <= 255; kind++ {
		wantFed(t, rightFrame(byte(kind), "body"), 0, 0, text(byte(kind), "body"))
	}
}

func TestFramesOfManyLengths(t *testing.T) {
	for _, n := range someLengths {
		body := string(sample(n))
		wantFed(t, rightFrame(9, body), 0, 0, text(9, body))
	}
}

func TestWhatWaits(t *testing.T) {
	for _, n := range someLengths {
		b := rightFrame(9, string(sample(n)))
		var f feeder
		for end := range b {
			if got := fed(b[:end]); !got.is(state{waits: end}) {
				t.Fatalf("%d of %d bytes: %v", end, len(b), got)
			}
			f.feed(b[end : end+1])
			if end+1 < len(b) && !f.state().is(state{waits: end + 1}) {
				t.Fatalf("%d of %d bytes, byte by byte: %v", end+1, len(b), f.state())
			}
		}
		if !f.state().is(state{frames: []string{text(9, string(sample(n)))}}) {
			t.Fatalf("all %d bytes: %v", len(b), f.state())
		}
	}
}

// Behind a frame, and behind what is dropped, the beginning of another one waits.
func TestWhatWaitsBehindOthers(t *testing.T) {
	whole, next := rightFrame(1, "whole"), rightFrame(2, "next")
	for end := range next {
		wantFed(t, join(whole, next[:end]), 0, end, text(1, "whole"))
		wantFed(t, join([]byte("junk"), next[:end]), 4, end)
		wantFed(t, join([]byte("junk"), whole, []byte("more"), next[:end]), 8, end, text(1, "whole"))
	}
}

func TestJunkAheadOfAFrame(t *testing.T) {
	one := rightFrame(1, "one")
	for _, junk := range []string{"", "x", "d", "junk", "\x00\x00", "d\x01", strings.Repeat("no frame ", 500)} {
		wantFed(t, join([]byte(junk), one), len(junk), 0, text(1, "one"))
		wantFed(t, join(one, []byte(junk)), len(junk), 0, text(1, "one"))
		wantFed(t, join(one, []byte(junk), one), len(junk), 0, text(1, "one"), text(1, "one"))
	}
}

func TestEachByteThatIsNoBeginning(t *testing.T) {
	for value := range 256 {
		dropped, waits := 1, 0
		if value == 'r' {
			dropped, waits = 0, 1
		}
		wantFed(t, []byte{byte(value)}, dropped, waits)
	}
}

// What begins as a frame does, and goes on otherwise, is dropped as far as no other frame begins within it.
func TestBeginningsThatGoOnOtherwise(t *testing.T) {
	one := rightFrame(1, "one")
	for _, c := range []struct {
		junk           string
		dropped, waits int
	}{
		{"rx", 2, 0},
		{"rr", 1, 1},
		{"rrrr", 3, 1},
		{"rdx", 3, 0},
		{"rdr", 2, 1},
		{"rdrd", 2, 2},
		{"rd\x00", 3, 0},
		{"rd\x02", 3, 0},
		{"rd\x01\x00", 4, 0},
		{"rd\x01r", 0, 4},
		{"rd\x01rd", 3, 2},
		{"rd\x01rd\x01", 3, 3},
		{"rd\x01rd\x01\x05", 3, 4},
		{"rd\x01\x01rd\x01", 4, 3},
		{"rd\x01\x01\x04", 5, 0},
		{"rd\x01\x01\x03\xe8", 0, 6},
		{"rd\x01\x01\x03\xe9", 6, 0},
		{"rd\x01\xff\x03r", 0, 6},
		{"rd\x01\x01\xff\xff", 6, 0},
	} {
		wantFed(t, []byte(c.junk), c.dropped, c.waits)
		wantFed(t, join([]byte("x"), []byte(c.junk)), c.dropped+1, c.waits)
		wantFed(t, join(one, []byte(c.junk)), c.dropped, c.waits, text(1, "one"))
		if c.waits < 3 {
			wantFed(t, join([]byte(c.junk), one), len(c.junk), 0, text(1, "one"))
		}
	}
}

// These frames are right but for their type or length, which is refused as soon as it is there.
func TestFramesOfWrongTypesAndLengths(t *testing.T) {
	one := rightFrame(1, "one")
	bad := plainFrame(0, 4, []byte("four"))
	wantFed(t, join(bad, one), len(bad), 0, text(1, "one"))
	for _, n := range []int{1001, 1002, 1024, 5000, 1<<16 - 1} {
		bad := plainFrame(1, n, make([]byte, n))
		wantFed(t, bad[:beginSize], beginSize, 0)
		wantFed(t, join(bad, one), len(bad), 0, text(1, "one"))
	}
}

func TestFramesOfWrongSums(t *testing.T) {
	one := rightFrame(1, "one")
	for _, body := range []string{"", "x", "spoilt", strings.Repeat("much ", 200)} {
		for at := beginSize; at < headSize+len(body); at++ {
			if at > headSize+6 && at%97 != 0 {
				continue
			}
			bad := spoiled(3, body, at)
			wantFed(t, bad, len(bad), 0)
			wantFed(t, join(bad, one), len(bad), 0, text(1, "one"))
			wantFed(t, join(one, bad, one), len(bad), 0, text(1, "one"), text(1, "one"))
		}
	}
}

// Of a frame that isn't right nothing but its bytes is seen, of each one that is right the body as it is.
func TestFramesWithinFrames(t *testing.T) {
	inner := rightFrame(1, "inner")
	body := "ahead" + string(inner) + "behind"
	wantFed(t, rightFrame(2, body), 0, 0, text(2, body))
	wantFed(t, spoiled(2, body, 7), headSize+len("ahead")+len("behind"), 0, text(1, "inner"))
	bad := spoiled(2, string(inner[:9]), 7)
	wantFed(t, bad, headSize, 9)
	wantFed(t, join(bad, inner[9:]), headSize, 0, text(1, "inner"))
}

// A length that was spoiled to a greater one makes what stands behind it wait, till so much is there.
func TestLengthsThatAreTooGreat(t *testing.T) {
	bad := rightFrame(3, "abcd")
	bad[4] = 3
	one := rightFrame(1, "one")
	missing := headSize + 0x304 - len(bad)
	row := bytes.Repeat(one, missing/len(one)+1)

	wantFed(t, bad, 0, len(bad))
	wantFed(t, join(bad, row[:missing-1]), 0, len(bad)+missing-1)
	got := fed(join(bad, row[:missing]))
	want := state{slices.Repeat([]string{text(1, "one")}, missing/len(one)), len(bad), missing % len(one)}
	if !got.is(want) {
		t.Errorf("got %v, want %v", got, want)
	}
}

// A length that was spoiled to a smaller one is found by the sum.
func TestLengthsThatAreTooSmall(t *testing.T) {
	for length := range 20 {
		bad := rightFrame(3, strings.Repeat("a", 20))
		bad[5] = byte(length)
		wantFed(t, bad, len(bad), 0)
		wantFed(t, join(bad, rightFrame(1, "one")), len(bad), 0, text(1, "one"))
	}
}

func TestFeedGivesOutWhatIsWholeNow(t *testing.T) {
	one, two, three := rightFrame(1, "one"), rightFrame(2, "two"), rightFrame(3, "three")
	var f feeder
	for i, c := range []struct {
		piece []byte
		want  state
	}{
		{join([]byte("ab"), one[:5]), state{nil, 2, 5}},
		{nil, state{nil, 2, 5}},
		{one[5:], state{[]string{text(1, "one")}, 2, 0}},
		{[]byte{}, state{nil, 2, 0}},
		{join(two, three[:12]), state{[]string{text(2, "two")}, 2, 12}},
		{join(three[12:], two, one, []byte("cr")), state{[]string{text(3, "three"), text(2, "two"), text(1, "one")}, 3, 1}},
		{[]byte("d"), state{nil, 3, 2}},
		{[]byte("e"), state{nil, 6, 0}},
		{one, state{[]string{text(1, "one")}, 6, 0}},
	} {
		f.frames = nil
		f.feed(c.piece)
		if got := f.state(); !got.is(c.want) {
			t.Errorf("piece %d: got %v, want %v", i, got, c.want)
		}
	}
}

// P6.2

// hardBytes are frames with all that can stand between them.
func hardBytes() []byte {
	wide := rightFrame(4, "abcd")
	wide[5] = 40
	return join([]byte("junk"), rightFrame(1, "one"), spoiled(3, "spoilt", 12), []byte("rrrd"), rightFrame(2, ""),
		[]byte("rd\x01\x00"), rightFrame(5, string(rightFrame(6, "inner"))), wide, rightFrame('r', "rd\x01"),
		spoiled(7, string(rightFrame(8, "saved")), 8), []byte("rd\x01\x01\x04rd\x01\x09\x03"), rightFrame(255, string(sample(70))))
}

// wantSame sees that these pieces make of a stream what all of their bytes ask for.
func wantSame(t *testing.T, pieces [][]byte) {
	t.Helper()
	all := slices.Concat(pieces...)
	if got, want := fed(pieces...), reckoned(all); !got.is(want) {
		sizes := []int{}
		for _, piece := range pieces {
			sizes = append(sizes, len(piece))
		}
		t.Errorf("%x in pieces of %v: got %v, want %v", all, sizes, got, want)
	}
}

func TestBytesInPiecesOfOneSize(t *testing.T) {
	b := hardBytes()
	if want := reckoned(b); len(want.frames) < 5 || want.dropped < 50 {
		t.Fatalf("the bytes are too plain: %v", want)
	}
	for size := 1; size <= len(b); size++ {
		wantSame(t, slices.Collect(slices.Chunk(b, size)))
	}
}

func TestBytesInThreePieces(t *testing.T) {
	b := hardBytes()
	for i := range b {
		for j := i; j < len(b); j += 3 {
			wantSame(t, [][]byte{b[:i], b[i:j], b[j:]})
		}
	}
}

func TestShortBytesInAllPieces(t *testing.T) {
	for _, b := range [][]byte{
		join([]byte("r"), rightFrame(1, ""), []byte("rd\x01")),
		join(spoiled(1, "r", 7), []byte("rd")),
		[]byte("rd\x01\x00rd\x02rd\x01\x01\x04"),
	} {
		for cuts := range 1 << (len(b) - 1) {
			var pieces [][]byte
			from := 0
			for i := 1; i <= len(b); i++ {
				if i == len(b) || cuts>>(i-1)&1 == 1 {
					pieces = append(pieces, b[from:i])
					from = i
				}
			}
			wantSame(t, pieces)
		}
	}
}

// After each byte a stream is what the bytes so far ask for.
func TestEachStateOnTheWay(t *testing.T) {
	b := hardBytes()
	var f feeder
	for i := range b {
		f.feed(b[i : i+1])
		if want := reckoned(b[:i+1]); !f.state().is(want) {
			t.Fatalf("%d bytes: got %v, want %v", i+1, f.state(), want)
		}
	}
}

func TestFramesOneBehindTheOther(t *testing.T) {
	var row []byte
	var want []string
	for i := range 60 {
		body := string(sample(someLengths[i%len(someLengths)]))
		row = append(row, rightFrame(byte(i*4+1), body)...)
		want = append(want, text(byte(i*4+1), body))
	}
	for _, size := range []int{1, 2, 3, 7, 10, 64, 999, 1009, 1010, 1011, 5000, len(row)} {
		if got := fed(slices.Collect(slices.Chunk(row, size))...); !got.is(state{frames: want}) {
			t.Errorf("in pieces of %d: got %v", size, got)
		}
	}
}

// The bytes are chosen by a plain rule, so that they are the same each time.
func TestMixedBytesInMixedPieces(t *testing.T) {
	seed := uint64(2026)
	next := func(below int) int {
		seed = seed*6364136223846793005 + 1442695040888963407
		return int(seed >> 33 % uint64(below))
	}
	for range 4000 {
		var pieces [][]byte
		for b := mixed(next); len(b) > 0; {
			n := min(1+next(1<<next(9)), len(b))
			pieces = append(pieces, b[:n])
			b = b[n:]
		}
		wantSame(t, pieces)
	}
}

// mixed is a row of frames, right and spoiled ones, parts of them, and bytes that frames like to have.
func mixed(next func(int) int) []byte {
	var b []byte
	for range 1 + next(8) {
		one := plainFrame(byte(next(256)), next(30), sample(next(30)))
		switch next(5) {
		case 0, 1:
			one = rightFrame(byte(1+next(255)), string(sample(next(30))))
		case 2:
			one[next(len(one))] = byte(next(256))
		case 3:
			one = one[:next(len(one))]
		case 4:
			one = nil
			for range next(12) {
				one = append(one, "rrdd\x01\x00\x03\x02x"[next(9)])
			}
		}
		b = append(b, one...)
	}
	return b
}

// Each six bytes begin a frame here that is as long as one can be, and that is none when all of it is there.
func TestNoMoreThanAFrameWaits(t *testing.T) {
	row := bytes.Repeat([]byte("rd\x01\x01\x03\xe8"), 800)
	var f feeder
	for i := range row {
		f.feed(row[i : i+1])
		got := f.state()
		if got.waits >= headSize+api.MaxBody || got.waits+got.dropped != i+1 || len(got.frames) != 0 {
			t.Fatalf("%d bytes: %v", i+1, got)
		}
	}
	if want := reckoned(row); !f.state().is(want) || !fed(row).is(want) {
		t.Errorf("got %v byte by byte and %v at once, want %v", f.state(), fed(row), want)
	}
}

// R2

func TestStreamsAreApart(t *testing.T) {
	a, b := rightFrame(1, "of a"), rightFrame(2, "of b")
	var f, g feeder
	for i := range a {
		f.feed(a[i : i+1])
		g.feed(b[i : i+1])
	}
	if !f.state().is(state{frames: []string{text(1, "of a")}}) || !g.state().is(state{frames: []string{text(2, "of b")}}) {
		t.Errorf("got %v and %v", f.state(), g.state())
	}
}

func TestACopiedStreamGoesOnByItself(t *testing.T) {
	for cut := 1; cut < headSize+4; cut++ {
		a, b := rightFrame(1, "of a"), rightFrame(1, "of b")
		copy(b[:cut], a)
		var f feeder
		f.feed(a[:cut])
		g := f
		f.feed(a[cut : len(a)-1])
		g.feed(b[cut : len(b)-1])
		f.feed(a[len(a)-1:])
		g.feed(b[len(b)-1:])
		if want := reckoned(a); !f.state().is(want) {
			t.Errorf("cut at %d: got %v, want %v", cut, f.state(), want)
		}
		if want := reckoned(b); !g.state().is(want) {
			t.Errorf("the copy, cut at %d: got %v, want %v", cut, g.state(), want)
		}
	}
}

// R3

// overwrite changes all of a list's memory, its spare room too.
func overwrite(b []byte) {
	for i := range b[:cap(b)] {
		b[:cap(b)][i] ^= 0xa5
	}
}

func TestWhatIsFedStaysAsItIs(t *testing.T) {
	whole := join(hardBytes(), sample(80))
	before := bytes.Clone(whole)
	for end := range whole {
		var s stream.Stream
		s.Feed(whole[:end/2])
		s.Feed(whole[end/2 : end])
		s.Feed(whole[:end])
	}
	if !bytes.Equal(whole, before) {
		t.Error("what was fed, or its spare room, was changed")
	}
}

// All pieces come in one list, which is overwritten as soon as it was fed.
func TestWhatIsFedIsNotKept(t *testing.T) {
	b := hardBytes()
	for size := 1; size <= len(b); size++ {
		var f feeder
		var given []frame.Frame
		for piece := range slices.Chunk(b, size) {
			room := append(make([]byte, 0, size+40), piece...)
			given = append(given, f.stream.Feed(room)...)
			overwrite(room)
		}
		for _, one := range given {
			f.frames = append(f.frames, shown(one))
		}
		if want := reckoned(b); !f.state().is(want) {
			t.Fatalf("pieces of %d: got %v, want %v", size, f.state(), want)
		}
	}
}

func TestAnswersShareNoMemory(t *testing.T) {
	b := join(rightFrame(1, "one"), rightFrame(2, ""), rightFrame(3, "three"), rightFrame(4, "four"))
	end := len(b) - 2
	whole := bytes.Clone(b)
	var s stream.Stream
	given := s.Feed(whole[:end])
	if len(given) != 3 {
		t.Fatalf("%d frames", len(given))
	}
	for i := range given {
		overwrite(given[i].Body)
		for j := i + 1; j < len(given); j++ {
			if want := []string{"one", "", "three"}[j]; string(given[j].Body) != want {
				t.Errorf("the body %d shares memory with the body %d", j, i)
			}
		}
	}
	clear(given[:cap(given)])
	if !bytes.Equal(whole, b) {
		t.Error("an answer shares memory with what was fed")
	}
	if last := s.Feed(whole[end:]); len(last) != 1 || shown(last[0]) != text(4, "four") {
		t.Errorf("an answer shares memory with the stream: %v", last)
	}
}

// P5: what isn't right is refused, and what is right behind it is not.

func TestEachFlippedBit(t *testing.T) {
	right := rightFrame(3, "abcdef")
	for bit := range len(right) * 8 {
		bad := slices.Clone(right)
		bad[bit/8] ^= 1 << (bit % 8)
		row := join(bad, bytes.Repeat(rightFrame(1, "one"), 90))
		got := fed(row)
		if want := reckoned(row); !got.is(want) {
			t.Errorf("bit %d: got %v, want %v", bit, got, want)
		}
		if slices.Contains(got.frames, text(3, "abcdef")) || len(got.frames) != 90 && got.waits == 0 {
			t.Errorf("bit %d: %v", bit, got)
		}
	}
}

func TestAnythingAtAll(t *testing.T) {
	for value := range 256 {
		for _, n := range []int{1, 9, 10, 11, 3000} {
			wantSame(t, [][]byte{bytes.Repeat([]byte{byte(value)}, n), rightFrame(1, "one"), bytes.Repeat([]byte{byte(value)}, n)})
		}
	}
}
