package frame_test

import (
	"bytes"
	"crypto/sha256"
	"encoding/binary"
	"encoding/hex"
	"slices"
	"strings"
	"testing"

	"redactor/api"
	"redactor/frame"
)

const (
	beginSize = 6
	headSize  = 10
)

// someLengths are lengths of bodies at the edges of the length's bytes, of the hash's blocks, and of what is allowed.
var someLengths = []int{0, 1, 2, 3, 51, 52, 53, 60, 61, 62, 127, 128, 254, 255, 256, 257, 511, 512, 767, 768, 998, 999, 1000}

// longLengths are lengths of bodies that are too long; the lowest two bytes of some are small.
var longLengths = []int{1001, 1002, 1023, 1024, 1025, 4096, 65535, 65536, 65537, 65536 + 1000, 2 * 65536, 1<<24 + 5}

var someTypes = []byte{1, 2, 3, 6, 7, 'r', 'd', 127, 128, 254, 255}

// sample makes bytes of all values.
func sample(n int) []byte {
	b := make([]byte, n)
	for i := range b {
		b[i] = byte(i*i + 7*i + i>>8 + 131)
	}
	return b
}

// plainFrame is the chapter's frame, made by the library; it makes wrong types and lengths too.
func plainFrame(kind byte, length int, body []byte) []byte {
	label := binary.BigEndian.AppendUint16([]byte{kind}, uint16(length))
	sum := sha256.Sum256(slices.Concat(label, body))
	return slices.Concat([]byte("rd\x01"), label, sum[:4], body)
}

func rightFrame(kind byte, body []byte) []byte {
	return plainFrame(kind, len(body), body)
}

// wantEncoded sees that the frame becomes these bytes.
func wantEncoded(t *testing.T, f frame.Frame, want []byte) {
	t.Helper()
	if got, e := frame.Encode(f); e != api.OK || !bytes.Equal(got, want) {
		t.Errorf("type %d, %d bytes: got %.40x and %d, want %.40x", f.Type, len(f.Body), got, e, want)
	}
}

func wantNotEncoded(t *testing.T, f frame.Frame, want api.Errno) {
	t.Helper()
	if got, e := frame.Encode(f); e != want || len(got) != 0 {
		t.Errorf("type %d, %d bytes: got %.40x and %d, want no bytes and %d", f.Type, len(f.Body), got, e, want)
	}
}

// wantDecoded sees that b begins with a frame of this type and body.
func wantDecoded(t *testing.T, b []byte, kind byte, body []byte) {
	t.Helper()
	f, n, e := frame.Decode(b)
	if e != api.OK || f.Type != kind || !bytes.Equal(f.Body, body) || n != headSize+len(body) {
		t.Errorf("%.40x: got type %d, body %.40x, %d bytes and %d, want type %d, body %.40x", b, f.Type, f.Body, n, e, kind, body)
	}
	if !frame.Begins(b) {
		t.Errorf("%.40x: doesn't begin a frame", b)
	}
}

// wantNotDecoded sees the error, and that everything beside it is zero.
func wantNotDecoded(t *testing.T, b []byte, want api.Errno) {
	t.Helper()
	f, n, e := frame.Decode(b)
	if e != want || f.Type != 0 || len(f.Body) != 0 || n != 0 {
		t.Errorf("%.40x (%d bytes): got type %d, body %.40x, %d bytes and %d, want nothing and %d", b, len(b), f.Type, f.Body, n, e, want)
	}
	if frame.Begins(b) != (want != api.ErrForm) {
		t.Errorf("%.40x: Begins says %v beside %d", b, frame.Begins(b), want)
	}
}

func bytesOfHex(t *testing.T, s string) []byte {
	t.Helper()
	b, err := hex.DecodeString(s)
	if err != nil {
		t.Fatalf("bad bytes %q in the test", s)
	}
	return b
}

// P4.1: Encode

func TestKnownFrames(t *testing.T) {
	for _, c := range []struct {
		kind       byte
		body, want string
	}{
		{7, "hello", "7264010700050d8c445c68656c6c6f"},
		{1, "", "726401010000fb50dc07"},
		{255, "", "726401ff00007fa54a42"},
		{4, "rd\x01", "726401040003f89b7cb2726401"},
		{200, strings.Repeat("\x00", 1000), "726401c803e89dd63512" + strings.Repeat("00", 1000)},
	} {
		want := bytesOfHex(t, c.want)
		wantEncoded(t, frame.Frame{Type: c.kind, Body: []byte(c.body)}, want)
		wantDecoded(t, want, c.kind, []byte(c.body))
	}
}

func TestFrameOfNoBodyHasTenBytes(t *testing.T) {
	for _, body := range [][]byte{nil, {}, make([]byte, 0, 50)} {
		b, e := frame.Encode(frame.Frame{Type: 9, Body: body})
		if e != api.OK || len(b) != 10 {
			t.Errorf("got %x and %d", b, e)
		}
	}
}

func TestEncodeEveryType(t *testing.T) {
	for kind := 1; kind <= 255; kind++ {
		for _, n := range []int{0, 1, 5, 300} {
			wantEncoded(t, frame.Frame{Type: byte(kind), Body: sample(n)}, rightFrame(byte(kind), sample(n)))
		}
	}
}

func TestEncodeEveryLength(t *testing.T) {
	for n := range api.MaxBody + 1 {
		wantEncoded(t, frame.Frame{Type: 3, Body: sample(n)}, rightFrame(3, sample(n)))
	}
}

func TestEncodeOfTypeNought(t *testing.T) {
	for _, n := range someLengths {
		wantNotEncoded(t, frame.Frame{Body: sample(n)}, api.ErrArg)
	}
	wantNotEncoded(t, frame.Frame{}, api.ErrArg)
}

func TestEncodeOfLongBodies(t *testing.T) {
	for _, n := range longLengths {
		for _, kind := range someTypes {
			wantNotEncoded(t, frame.Frame{Type: kind, Body: sample(n)}, api.ErrLong)
		}
	}
}

// R6: the type is asked for ahead of the body.
func TestEncodeOfTypeNoughtWithALongBody(t *testing.T) {
	for _, n := range longLengths {
		wantNotEncoded(t, frame.Frame{Body: sample(n)}, api.ErrArg)
	}
}

// P4.1: Begins

// allBeginnings are all frames' first six bytes, and each part that they begin with.
func allBeginnings() map[string]struct{} {
	set := map[string]struct{}{}
	for kind := 1; kind <= 255; kind++ {
		for n := range api.MaxBody + 1 {
			begin := "rd\x01" + string([]byte{byte(kind), byte(n >> 8), byte(n)})
			for cut := range beginSize + 1 {
				set[begin[:cut]] = struct{}{}
			}
		}
	}
	return set
}

// wantBeginning sees that Begins says so, and that Decode refuses the form of all others.
func wantBeginning(t *testing.T, b []byte, want bool) {
	t.Helper()
	if got := frame.Begins(b); got != want {
		t.Errorf("%x: got %v", b, got)
	}
	if _, _, e := frame.Decode(b); (e == api.ErrForm) == want {
		t.Errorf("%x: Decode answers %d", b, e)
	}
}

func TestBeginsOfNothing(t *testing.T) {
	for _, b := range [][]byte{nil, {}, make([]byte, 0, 20)} {
		wantBeginning(t, b, true)
		wantNotDecoded(t, b, api.ErrShort)
	}
}

// Each part of right beginnings, with each byte put at its end, is held against all beginnings that there are.
func TestBeginsAgainstAllBeginnings(t *testing.T) {
	set := allBeginnings()
	ahead := []string{"", "r", "rd", "rd\x01", "dr", "rr", "dd", "rd\x00", "rd\x02"}
	for kind := range 256 {
		ahead = append(ahead, "rd\x01"+string([]byte{byte(kind)}))
	}
	for high := range 256 {
		for _, kind := range []byte{0, 1, 77, 255} {
			ahead = append(ahead, "rd\x01"+string([]byte{kind, byte(high)}))
		}
	}
	for _, s := range ahead {
		for last := range 256 {
			b := append([]byte(s), byte(last))
			_, want := set[string(b)]
			wantBeginning(t, b, want)
			if len(b) == beginSize {
				wantBeginning(t, append(b, sample(40)...), want)
			}
		}
	}
}

func TestBeginsWithEachByteSpoiled(t *testing.T) {
	right := rightFrame(6, sample(20))
	for at := range 3 {
		for value := range 256 {
			b := slices.Clone(right)
			b[at] = byte(value)
			same := b[at] == right[at]
			for end := at + 1; end <= len(b); end++ {
				wantBeginning(t, b[:end], same)
			}
		}
	}
}

func TestBeginsAsksNothingBehindSixBytes(t *testing.T) {
	right := rightFrame(6, sample(20))
	for at := beginSize; at < len(right); at++ {
		b := slices.Clone(right)
		b[at] ^= 255
		wantBeginning(t, b, true)
	}
	wantBeginning(t, append([]byte("rd\x01\x01\x03\xe8"), make([]byte, 5000)...), true)
}

// P4.1: Decode

func TestDecodeEveryType(t *testing.T) {
	for kind := 1; kind <= 255; kind++ {
		wantDecoded(t, rightFrame(byte(kind), sample(30)), byte(kind), sample(30))
	}
}

func TestDecodeEveryLength(t *testing.T) {
	for n := range api.MaxBody + 1 {
		wantDecoded(t, rightFrame(8, sample(n)), 8, sample(n))
	}
}

// The type 0 has a right sum here, so that only its being 0 is wrong.
func TestDecodeOfTypeNought(t *testing.T) {
	for _, n := range someLengths {
		wantNotDecoded(t, rightFrame(0, sample(n)), api.ErrForm)
	}
}

// These bodies are all there, with right sums, but for being too long.
func TestDecodeOfLongBodies(t *testing.T) {
	for n := api.MaxBody + 1; n < 1<<16; n++ {
		if n > 1100 && n%251 != 0 && n != 1<<16-1 {
			continue
		}
		wantNotDecoded(t, rightFrame(2, sample(n)), api.ErrForm)
		wantNotDecoded(t, rightFrame(2, sample(n))[:beginSize], api.ErrForm)
	}
}

// A length is refused as soon as what is there of it is too great.
func TestDecodeOfLengthsInPart(t *testing.T) {
	for high := range 256 {
		want := api.ErrForm
		if high <= 3 {
			want = api.ErrShort
		}
		wantNotDecoded(t, []byte{'r', 'd', 1, 5, byte(high)}, want)
	}
	for low := range 256 {
		want := api.ErrForm
		if low <= 0xe8 {
			want = api.ErrShort
		}
		wantNotDecoded(t, []byte{'r', 'd', 1, 5, 3, byte(low)}, want)
	}
}

func TestDecodeOfFramesOfOtherVersions(t *testing.T) {
	for version := range 256 {
		b := rightFrame(5, sample(12))
		b[2] = byte(version)
		if version == 1 {
			wantDecoded(t, b, 5, sample(12))
		} else {
			wantNotDecoded(t, b, api.ErrForm)
		}
	}
}

func TestDecodeOfWrongSums(t *testing.T) {
	for _, n := range someLengths {
		right := rightFrame(5, sample(n))
		for at := beginSize; at < headSize; at++ {
			for _, flip := range []byte{1, 2, 4, 8, 16, 32, 64, 128, 255} {
				b := slices.Clone(right)
				b[at] ^= flip
				wantNotDecoded(t, b, api.ErrSum)
				wantNotDecoded(t, append(b, 1, 2, 3), api.ErrSum)
			}
		}
	}
}

// Sums over other things than the type, the length and the body are wrong ones.
func TestDecodeOfSumsOverOtherThings(t *testing.T) {
	body := sample(33)
	right := rightFrame(5, body)
	for name, of := range map[string][]byte{
		"the body":            body,
		"the length and body": slices.Concat(right[4:6], body),
		"the type and body":   slices.Concat(right[3:4], body),
		"all but the sum":     slices.Concat(right[:6], body),
		"the label":           right[3:6],
		"one byte less":       slices.Concat(right[3:6], body[:32]),
	} {
		sum := sha256.Sum256(of)
		b := slices.Concat(right[:beginSize], sum[:4], body)
		if bytes.Equal(b, right) {
			t.Fatalf("%s has the right sum", name)
		}
		wantNotDecoded(t, b, api.ErrSum)
	}
	sum := sha256.Sum256(right[3:6])
	last := sha256.Sum256(slices.Concat(right[3:6], body))
	wantNotDecoded(t, slices.Concat(right[:beginSize], sum[28:], body), api.ErrSum)
	wantNotDecoded(t, slices.Concat(right[:beginSize], last[28:], body), api.ErrSum)
}

// wantedError is what the chapter asks for bytes that are as long as the right frame, with one byte changed.
func wantedError(b []byte) api.Errno {
	length := int(b[4])<<8 | int(b[5])
	switch {
	case string(b[:3]) != "rd\x01" || b[3] == 0 || length > 1000:
		return api.ErrForm
	case headSize+length > len(b):
		return api.ErrShort
	}
	return api.ErrSum
}

func TestDecodeOfEachFlippedBit(t *testing.T) {
	for _, n := range []int{0, 1, 20, 256, 700, 1000} {
		right := rightFrame(1, sample(n))
		for bit := range len(right) * 8 {
			b := slices.Clone(right)
			b[bit/8] ^= 1 << (bit % 8)
			wantNotDecoded(t, b, wantedError(b))
		}
	}
}

func TestDecodeOfEachByteInTheHead(t *testing.T) {
	for _, behind := range []int{0, 2000} {
		for at := range headSize {
			right := rightFrame(40, sample(300))
			for value := range 256 {
				b := append(slices.Clone(right), make([]byte, behind)...)
				b[at] = byte(value)
				if b[at] == right[at] {
					wantDecoded(t, b, 40, sample(300))
				} else {
					wantNotDecoded(t, b, wantedError(b))
				}
			}
		}
	}
}

// R6: bytes that are wrong in several ways answer the first error of the chapter.
func TestDecodeAsksInOrder(t *testing.T) {
	spoiled := rightFrame(5, sample(50))
	spoiled[7] ^= 1
	for end := range spoiled {
		wantNotDecoded(t, spoiled[:end], api.ErrShort)
	}
	wantNotDecoded(t, spoiled, api.ErrSum)
	spoiled[3] = 0
	for end := 4; end <= len(spoiled); end++ {
		wantNotDecoded(t, spoiled[:end], api.ErrForm)
	}
}

func TestDecodeOfOtherBytes(t *testing.T) {
	for _, s := range []string{"d", "R", "RD\x01\x01\x00\x00", "\x01", "\x00", " rd\x01", "r\x01", "rrd\x01", "rd1", "rd\x81", "rd\x01\x00", "\xff\xff\xff\xff\xff\xff"} {
		wantNotDecoded(t, []byte(s), api.ErrForm)
		wantNotDecoded(t, append([]byte(s), rightFrame(1, nil)...), api.ErrForm)
	}
}

// The bytes are chosen by a plain rule, so that they are the same each time; most of them go wrong somewhere.
func TestDecodeOfMixedBytes(t *testing.T) {
	state := uint64(2024)
	next := func(below int) int {
		state = state*6364136223846793005 + 1442695040888963407
		return int(state >> 33 % uint64(below))
	}
	set := allBeginnings()
	for range 20000 {
		kind, n := byte(next(256)), next(40)
		b := plainFrame(kind, n, sample(n))
		for range next(3) {
			b[next(len(b))] = byte(next(256))
		}
		b = append(b, sample(next(30))...)
		b = b[:next(len(b)+1)]
		wantAsAsked(t, set, b)
	}
}

// wantAsAsked holds Decode against the chapter's sentences, one after the other.
func wantAsAsked(t *testing.T, set map[string]struct{}, b []byte) {
	t.Helper()
	if _, ok := set[string(b[:min(len(b), beginSize)])]; !ok {
		wantNotDecoded(t, b, api.ErrForm)
		return
	}
	if len(b) < headSize || len(b) < headSize+int(binary.BigEndian.Uint16(b[4:])) {
		wantNotDecoded(t, b, api.ErrShort)
		return
	}
	body := b[headSize : headSize+int(binary.BigEndian.Uint16(b[4:]))]
	if !bytes.HasPrefix(b, rightFrame(b[3], body)) {
		wantNotDecoded(t, b, api.ErrSum)
		return
	}
	wantDecoded(t, b, b[3], body)
}

// P4.2

// encoded is the frame's bytes; whether they are the right ones is asked elsewhere.
func encoded(t *testing.T, kind byte, body []byte) []byte {
	t.Helper()
	b, e := frame.Encode(frame.Frame{Type: kind, Body: body})
	if e != api.OK {
		t.Fatalf("type %d, %d bytes: %d", kind, len(body), e)
	}
	return b
}

func TestWhatWasEncodedIsDecoded(t *testing.T) {
	another := rightFrame(1, []byte("another"))
	for _, n := range someLengths {
		for _, kind := range someTypes {
			b := encoded(t, kind, sample(n))
			for _, behind := range [][]byte{nil, {0}, {'r'}, []byte("rd\x01"), []byte("more"), another, another[:9], sample(3000)} {
				wantDecoded(t, slices.Concat(b, behind), kind, sample(n))
			}
		}
	}
}

func TestWhatWasCutOffIsShort(t *testing.T) {
	for _, n := range someLengths {
		for _, kind := range []byte{1, 'r', 255} {
			b := encoded(t, kind, sample(n))
			for end := range b {
				wantNotDecoded(t, b[:end], api.ErrShort)
			}
		}
	}
}

func TestFramesWithinFrames(t *testing.T) {
	body := encoded(t, 1, nil)
	for kind := byte(2); len(body) <= api.MaxBody; kind++ {
		outer := encoded(t, kind, body)
		wantDecoded(t, outer, kind, body)
		body = outer
	}
}

func TestFramesOneBehindTheOther(t *testing.T) {
	var row []byte
	for _, n := range someLengths {
		row = append(row, encoded(t, byte(n%255+1), sample(n))...)
	}
	for _, n := range someLengths {
		wantDecoded(t, row, byte(n%255+1), sample(n))
		_, size, _ := frame.Decode(row)
		row = row[size:]
	}
	if len(row) != 0 {
		t.Errorf("%d bytes are left", len(row))
	}
}

// R2, R3 and R4

// overwrite changes all of a list's memory, its spare room too.
func overwrite(b []byte) {
	for i := range b[:cap(b)] {
		b[:cap(b)][i] ^= 0xa5
	}
}

func TestWhatIsHandedInStaysAsItIs(t *testing.T) {
	for _, n := range append(slices.Clone(someLengths), 1001) {
		whole := sample(n + 80)
		frame.Encode(frame.Frame{Type: 5, Body: whole[:n]})
		if !bytes.Equal(whole, sample(n+80)) {
			t.Errorf("Encode changed a body of %d bytes, or its spare room", n)
		}
		whole = append(rightFrame(5, sample(n)), sample(80)...)
		before := bytes.Clone(whole)
		for _, end := range []int{n / 2, n + 9, n + 10, n + 20} {
			frame.Decode(whole[:end])
			frame.Begins(whole[:end])
		}
		if !bytes.Equal(whole, before) {
			t.Errorf("a frame with %d bytes, or its spare room, was changed", n)
		}
	}
}

// An answer in what was handed in, or in its spare room, would change with it.
func TestWhatIsHandedInIsNotKept(t *testing.T) {
	for _, n := range someLengths {
		body := append(sample(n), sample(80)...)[:n]
		b := encoded(t, 5, body)
		overwrite(body)
		if !bytes.Equal(b, rightFrame(5, sample(n))) {
			t.Errorf("Encode keeps a body of %d bytes", n)
		}
		f, _, _ := frame.Decode(b)
		overwrite(b)
		if !bytes.Equal(f.Body, sample(n)) {
			t.Errorf("Decode keeps a frame with %d bytes", n)
		}
	}
}

func TestAnswersShareNoMemory(t *testing.T) {
	for _, n := range someLengths {
		body := append(sample(n), sample(80)...)
		whole := append(rightFrame(5, sample(n)), sample(80)...)
		before := bytes.Clone(whole)

		first, second := encoded(t, 5, body[:n]), encoded(t, 5, body[:n])
		overwrite(first)
		if !bytes.Equal(second, rightFrame(5, sample(n))) || !bytes.Equal(body, append(sample(n), sample(80)...)) {
			t.Errorf("Encode's answer for %d bytes shares memory", n)
		}
		one, _, _ := frame.Decode(whole[:n+headSize])
		other, _, _ := frame.Decode(whole[:n+headSize])
		overwrite(one.Body)
		if !bytes.Equal(other.Body, sample(n)) || !bytes.Equal(whole, before) {
			t.Errorf("Decode's answer for %d bytes shares memory", n)
		}
	}
}

func TestAskedAgainTheAnswerIsTheSame(t *testing.T) {
	b := encoded(t, 5, sample(100))
	for range 3 {
		wantEncoded(t, frame.Frame{Type: 5, Body: sample(100)}, b)
		wantDecoded(t, b, 5, sample(100))
		wantNotDecoded(t, b[:50], api.ErrShort)
	}
}

func TestNilAndEmptyMeanTheSame(t *testing.T) {
	want := rightFrame(5, nil)
	wantEncoded(t, frame.Frame{Type: 5}, want)
	wantEncoded(t, frame.Frame{Type: 5, Body: []byte{}}, want)
	wantDecoded(t, want, 5, nil)
}
