package pack_test

import (
	"bytes"
	"encoding/binary"
	"math"
	"slices"
	"strconv"
	"strings"
	"testing"
	"unsafe"

	"redactor/api"
	"redactor/pack"
)

// longest is the length of the longest text that may be written.
const longest = 65535

var rightSizes = []int{1, 2, 4, 8}

// wrongSizes are ones beside the right ones, below nought, and ones whose lowest bits alone would be right.
var wrongSizes = []int{
	0, 3, 5, 6, 7, 9, 10, 15, 16, 24, 32, 64, 65, 128, 255, 256, 257, 258, 260, 264, 65537, 65544,
	-1, -2, -4, -8, -7, -248, -252, -254, -255, math.MinInt, math.MinInt + 1, math.MinInt + 8, math.MinInt32,
	1 << 31, 1<<32 + 1, 1<<32 + 2, 1<<32 + 4, 1<<32 + 8, 1 << 61, 1 << 62, math.MaxInt32, math.MaxInt - 7, math.MaxInt,
}

// textLengths are lengths of texts that may be written.
var textLengths = []int{0, 1, 2, 127, 128, 254, 255, 256, 257, 1000, 32767, 32768, 65279, 65280, longest - 1, longest}

// longTexts are lengths of texts that may not be written; the lowest two bytes of some are small.
var longTexts = []int{longest + 1, longest + 2, 65536 + 255, 65536 + 256, 2*65536 - 1, 2 * 65536, 2*65536 + 1, 1 << 24, 1<<24 + 5}

// sample makes bytes of all values.
func sample(n int) []byte {
	b := make([]byte, n)
	for i := range b {
		b[i] = byte(i*i + 7*i + i>>8 + 131)
	}
	return b
}

func hashOf(seed int) api.Hash {
	return api.Hash(sample(seed%200 + 32)[seed%200:])
}

// plainNumber takes the number's bytes from the library's eight.
func plainNumber(n uint64, size int) []byte {
	return binary.BigEndian.AppendUint64(nil, n)[8-size:]
}

// greatest is the greatest number of so many bytes.
func greatest(size int) uint64 {
	return math.MaxUint64 >> (64 - 8*size)
}

// someNumbers are numbers that fit in so many bytes, at the edges of each byte and each bit.
func someNumbers(size int) []uint64 {
	list := []uint64{0, 0x0102030405060708, 0xf1e2d3c4b5a69788, 258, 513, 42}
	for k := range 64 {
		list = append(list, 1<<k, 1<<k-1, 1<<k+1)
	}
	for i := range list {
		list[i] &= greatest(size)
	}
	return append(list, greatest(size), greatest(size)-1)
}

func wantBytes(t *testing.T, name string, w *pack.Writer, want []byte) {
	t.Helper()
	if got := w.Bytes(); w.Bad() || !bytes.Equal(got, want) {
		t.Errorf("%s: bad %v, got %d bytes %.40x, want %d bytes %.40x", name, w.Bad(), len(got), got, len(want), want)
	}
}

func wantBadWriter(t *testing.T, name string, w *pack.Writer) {
	t.Helper()
	if b := w.Bytes(); !w.Bad() || len(b) != 0 {
		t.Errorf("%s: bad %v with %d bytes, want a bad writer with none", name, w.Bad(), len(b))
	}
}

// wantLeft sees that the reader isn't bad, and how many bytes it has left.
func wantLeft(t *testing.T, name string, r *pack.Reader, left int) {
	t.Helper()
	if r.Bad() || r.Left() != left || r.Done() != (left == 0) {
		t.Errorf("%s: bad %v, done %v, left %d, want %d left", name, r.Bad(), r.Done(), r.Left(), left)
	}
}

// wantBadReader sees that the reader is bad, and remains so whatever it reads.
func wantBadReader(t *testing.T, name string, r *pack.Reader) {
	t.Helper()
	for round := range 2 {
		if !r.Bad() || r.Left() != 0 || r.Done() {
			t.Errorf("%s, round %d: bad %v, done %v, left %d, want a bad reader", name, round, r.Bad(), r.Done(), r.Left())
		}
		for what, isZero := range zeroReads {
			if !isZero(r) {
				t.Errorf("%s, round %d: a bad reader's %s isn't zero", name, round, what)
			}
		}
	}
}

// zeroReads tell of each read whether it answered zero.
var zeroReads = map[string]func(r *pack.Reader) bool{
	"Number(1)":  func(r *pack.Reader) bool { return r.Number(1) == 0 },
	"Number(2)":  func(r *pack.Reader) bool { return r.Number(2) == 0 },
	"Number(4)":  func(r *pack.Reader) bool { return r.Number(4) == 0 },
	"Number(8)":  func(r *pack.Reader) bool { return r.Number(8) == 0 },
	"Number(0)":  func(r *pack.Reader) bool { return r.Number(0) == 0 },
	"Number(-1)": func(r *pack.Reader) bool { return r.Number(-1) == 0 },
	"Truth":      func(r *pack.Reader) bool { return !r.Truth() },
	"Text":       func(r *pack.Reader) bool { return r.Text() == "" },
	"Hash":       func(r *pack.Reader) bool { return r.Hash() == api.Hash{} },
}

// spoilings are all the ways to make a writer bad.
func spoilings() map[string]func(w *pack.Writer) {
	return map[string]func(w *pack.Writer){
		"256 in 1":       func(w *pack.Writer) { w.Number(256, 1) },
		"65536 in 2":     func(w *pack.Writer) { w.Number(65536, 2) },
		"2^32 in 4":      func(w *pack.Writer) { w.Number(1<<32, 4) },
		"greatest in 4":  func(w *pack.Writer) { w.Number(math.MaxUint64, 4) },
		"size 0":         func(w *pack.Writer) { w.Number(0, 0) },
		"size 3":         func(w *pack.Writer) { w.Number(1, 3) },
		"size -1":        func(w *pack.Writer) { w.Number(1, -1) },
		"size MinInt":    func(w *pack.Writer) { w.Number(1, math.MinInt) },
		"size MaxInt":    func(w *pack.Writer) { w.Number(1, math.MaxInt) },
		"text too long":  func(w *pack.Writer) { w.Text(strings.Repeat("a", longest+1)) },
		"text of 131072": func(w *pack.Writer) { w.Text(strings.Repeat("a", 131072)) },
	}
}

// item is one thing to write: how, as which bytes, and how it is read back.
type item struct {
	name  string
	write func(w *pack.Writer)
	bytes []byte
	read  func(r *pack.Reader) bool
}

func numberItem(n uint64, size int) item {
	return item{
		name:  "number of " + string(rune('0'+size)),
		write: func(w *pack.Writer) { w.Number(n, size) },
		bytes: plainNumber(n, size),
		read:  func(r *pack.Reader) bool { return r.Number(size) == n },
	}
}

func truthItem(b bool) item {
	plain := []byte{0}
	if b {
		plain[0] = 1
	}
	return item{
		name:  "truth",
		write: func(w *pack.Writer) { w.Truth(b) },
		bytes: plain,
		read:  func(r *pack.Reader) bool { return r.Truth() == b },
	}
}

func textItem(s string) item {
	return item{
		name:  "text",
		write: func(w *pack.Writer) { w.Text(s) },
		bytes: append([]byte{byte(len(s) >> 8), byte(len(s))}, s...),
		read:  func(r *pack.Reader) bool { return r.Text() == s },
	}
}

func hashItem(h api.Hash) item {
	return item{
		name:  "hash",
		write: func(w *pack.Writer) { w.Hash(h) },
		bytes: slices.Clone(h[:]),
		read:  func(r *pack.Reader) bool { return r.Hash() == h },
	}
}

// someItems are items of every kind, with few and many bytes.
func someItems() []item {
	list := []item{truthItem(false), truthItem(true), hashItem(api.Hash{}), hashItem(hashOf(5)), hashItem(hashOf(170))}
	for _, size := range rightSizes {
		list = append(list, numberItem(0, size), numberItem(1, size), numberItem(greatest(size), size), numberItem(0xf1e2d3c4b5a69788&greatest(size), size))
	}
	for _, s := range []string{"", "a", "ab\x00", "\x00\x01", "\xff\xfe\x80", "Grüße, 世界\n", strings.Repeat("xyz", 100)} {
		list = append(list, textItem(s))
	}
	return list
}

func writeAll(w *pack.Writer, row []item) []byte {
	var plain []byte
	for _, it := range row {
		it.write(w)
		plain = append(plain, it.bytes...)
	}
	return plain
}

// wantRow writes a row and reads it back, and sees at each step what was written and what is left.
func wantRow(t *testing.T, row []item) {
	t.Helper()
	var w pack.Writer
	plain := writeAll(&w, row)
	wantBytes(t, "row", &w, plain)
	r := pack.Read(w.Bytes())
	left := len(plain)
	wantLeft(t, "at first", r, left)
	for k, it := range row {
		if !it.read(r) {
			t.Errorf("item %d of %d, a %s, isn't read back", k, len(row), it.name)
		}
		left -= len(it.bytes)
		wantLeft(t, it.name, r, left)
	}
	if !r.Done() {
		t.Errorf("a row of %d items: not done", len(row))
	}
}

// P3.1

func TestZeroWriterHasWrittenNothing(t *testing.T) {
	var w pack.Writer
	wantBytes(t, "var", &w, nil)
	wantBytes(t, "new", new(pack.Writer), nil)
	wantBytes(t, "literal", &pack.Writer{}, nil)
}

func TestTheChaptersExample(t *testing.T) {
	var w pack.Writer
	w.Number(258, 2)
	w.Text("a")
	wantBytes(t, "example", &w, []byte{1, 2, 0, 1, 0x61})
}

func TestNumbersOfEverySize(t *testing.T) {
	for _, size := range rightSizes {
		for _, n := range someNumbers(size) {
			var w pack.Writer
			w.Number(n, size)
			wantBytes(t, "Number", &w, plainNumber(n, size))
		}
	}
	for n := range uint64(65536) {
		var w pack.Writer
		w.Number(n, 2)
		if b := w.Bytes(); w.Bad() || len(b) != 2 || b[0] != byte(n/256) || b[1] != byte(n%256) {
			t.Fatalf("Number(%d, 2): bad %v, %x", n, w.Bad(), b)
		}
	}
}

func TestNumbersThatDontFit(t *testing.T) {
	for _, size := range []int{1, 2, 4} {
		wrong := []uint64{greatest(size) + 1, greatest(size) + 2, math.MaxUint64, math.MaxUint64 << (8 * size), 0xff << 56}
		for k := 8 * size; k < 64; k++ {
			wrong = append(wrong, 1<<k, 1<<k|1, 1<<k|greatest(size))
		}
		for _, n := range wrong {
			var w pack.Writer
			w.Number(n, size)
			if b := w.Bytes(); !w.Bad() || len(b) != 0 {
				t.Errorf("Number(%d, %d): bad %v, %x", n, size, w.Bad(), b)
			}
		}
	}
}

func TestEightBytesHoldEveryNumber(t *testing.T) {
	for k := range 64 {
		var w pack.Writer
		w.Number(math.MaxUint64-1<<k, 8)
		wantBytes(t, "Number", &w, plainNumber(math.MaxUint64-1<<k, 8))
	}
}

func TestWriteSizesThatAreNone(t *testing.T) {
	for _, size := range wrongSizes {
		for _, n := range []uint64{0, 1, 255, 256, math.MaxUint64} {
			var w pack.Writer
			w.Number(n, size)
			if b := w.Bytes(); !w.Bad() || len(b) != 0 {
				t.Errorf("Number(%d, %d): bad %v, %x", n, size, w.Bad(), b)
			}
		}
	}
}

func TestTruths(t *testing.T) {
	var w pack.Writer
	w.Truth(true)
	wantBytes(t, "true", &w, []byte{1})
	w.Truth(false)
	wantBytes(t, "false", &w, []byte{1, 0})
	w.Truth(true)
	wantBytes(t, "true again", &w, []byte{1, 0, 1})
}

func TestTextsOfEveryLength(t *testing.T) {
	for _, n := range textLengths {
		s := string(sample(n))
		var w pack.Writer
		w.Text(s)
		wantBytes(t, "Text", &w, append(plainNumber(uint64(n), 2), s...))
	}
}

func TestTextsOfOddBytes(t *testing.T) {
	for _, s := range []string{"\x00", "\x00\x00\x00", "\xff\xff", "\x80\xbf", "\xed\xa0\x80", "ä", "a\nb\r\n", "\ufffd"} {
		var w pack.Writer
		w.Text(s)
		wantBytes(t, strconv.Quote(s), &w, append([]byte{0, byte(len(s))}, s...))
	}
}

func TestTextsThatAreTooLong(t *testing.T) {
	for _, n := range longTexts {
		var w pack.Writer
		w.Text(strings.Repeat("a", n))
		wantBadWriter(t, "alone", &w)
		var second pack.Writer
		second.Text("before")
		second.Text(strings.Repeat("\x00", n))
		wantBadWriter(t, "behind another", &second)
	}
}

func TestHashes(t *testing.T) {
	for _, h := range []api.Hash{{}, {9}, {31: 7}, hashOf(0), hashOf(99), api.Hash(bytes.Repeat([]byte{255}, 32))} {
		var w pack.Writer
		w.Hash(h)
		wantBytes(t, "Hash", &w, h[:])
	}
}

func TestItemsStandOneBehindTheOther(t *testing.T) {
	var w pack.Writer
	var plain []byte
	for range 3 {
		for _, it := range someItems() {
			it.write(&w)
			plain = append(plain, it.bytes...)
			wantBytes(t, it.name, &w, plain)
		}
	}
}

func TestBytesChangesNothing(t *testing.T) {
	var asked, unasked pack.Writer
	for _, it := range someItems() {
		for range 3 {
			asked.Bytes()
			asked.Bad()
		}
		it.write(&asked)
		it.write(&unasked)
	}
	wantBytes(t, "asked between", &asked, unasked.Bytes())
}

// Whatever stood ahead, and whatever comes behind, a bad writer is bad and has no bytes.
func TestBadWriterWritesNothingMore(t *testing.T) {
	for name, spoil := range spoilings() {
		for _, first := range append(someItems(), item{name: "nothing", write: func(w *pack.Writer) {}}) {
			var w pack.Writer
			first.write(&w)
			spoil(&w)
			wantBadWriter(t, name+" behind "+first.name, &w)
			for _, more := range someItems() {
				more.write(&w)
				wantBadWriter(t, name+", then "+more.name, &w)
			}
			spoil(&w)
			wantBadWriter(t, name+" twice", &w)
		}
	}
}

func TestOneBadWriterLeavesOthers(t *testing.T) {
	for name, spoil := range spoilings() {
		var w, other pack.Writer
		other.Number(7, 1)
		spoil(&w)
		wantBytes(t, name, &other, []byte{7})
		var fresh pack.Writer
		fresh.Truth(true)
		wantBytes(t, name, &fresh, []byte{1})
	}
}

func TestNilWriter(t *testing.T) {
	var w *pack.Writer
	wantBadWriter(t, "at first", w)
	for _, it := range someItems() {
		it.write(w)
		wantBadWriter(t, it.name, w)
	}
	for name, spoil := range spoilings() {
		spoil(w)
		wantBadWriter(t, name, w)
	}
}

// P3.2

func TestReaderOfNoBytes(t *testing.T) {
	for name, b := range map[string][]byte{"nil": nil, "empty": {}, "of spare room": sample(50)[:0]} {
		for what, isZero := range zeroReads {
			r := pack.Read(b)
			if r == nil {
				t.Fatalf("%s: no reader", name)
			}
			wantLeft(t, name, r, 0)
			if !isZero(r) {
				t.Errorf("%s: %s isn't zero", name, what)
			}
			wantBadReader(t, name+" behind "+what, r)
		}
	}
}

func TestZeroReaderIsOfNoBytes(t *testing.T) {
	for what, isZero := range zeroReads {
		var r pack.Reader
		wantLeft(t, "zero", &r, 0)
		if !isZero(&r) {
			t.Errorf("%s isn't zero", what)
		}
		wantBadReader(t, "zero behind "+what, &r)
	}
}

func TestReadNumbersOfEverySize(t *testing.T) {
	for _, size := range rightSizes {
		for _, n := range someNumbers(size) {
			r := pack.Read(plainNumber(n, size))
			if got := r.Number(size); got != n {
				t.Errorf("Number(%d): got %d, want %d", size, got, n)
			}
			wantLeft(t, "Number", r, 0)
		}
	}
}

func TestReadSizesThatAreNone(t *testing.T) {
	for _, size := range wrongSizes {
		for _, n := range []int{0, 1, 3, 8, 300} {
			r := pack.Read(bytes.Repeat([]byte{1}, n))
			if got := r.Number(size); got != 0 {
				t.Errorf("Number(%d) of %d bytes: got %d", size, n, got)
			}
			wantBadReader(t, "size", r)
		}
	}
}

func TestReadTruths(t *testing.T) {
	for b := range 256 {
		r := pack.Read([]byte{byte(b), 1, 1})
		if got := r.Truth(); got != (b == 1) {
			t.Errorf("byte %d: got %v", b, got)
		}
		if b < 2 {
			wantLeft(t, "Truth", r, 2)
		} else {
			wantBadReader(t, "Truth", r)
		}
	}
}

func TestReadTexts(t *testing.T) {
	for _, n := range textLengths {
		for _, behind := range []int{0, 1, 40} {
			b := slices.Concat(plainNumber(uint64(n), 2), sample(n), bytes.Repeat([]byte{5}, behind))
			r := pack.Read(b)
			if got := r.Text(); got != string(sample(n)) {
				t.Errorf("a text of %d bytes: got %d bytes", n, len(got))
			}
			wantLeft(t, "Text", r, behind)
		}
	}
}

func TestReadHashes(t *testing.T) {
	for _, h := range []api.Hash{{}, {1}, {31: 1}, hashOf(3), hashOf(120)} {
		r := pack.Read(append(h[:], 8, 9))
		if got := r.Hash(); got != h {
			t.Errorf("got %x, want %x", got, h)
		}
		wantLeft(t, "Hash", r, 2)
	}
}

// Bytes that end within an item make the reader bad, and nothing of them is read, with no bytes ahead and with some.
func TestBytesThatEndWithinAnItem(t *testing.T) {
	for _, it := range append(someItems(), textItem(strings.Repeat("b", 300))) {
		for cut := range it.bytes {
			for _, ahead := range []int{0, 1, 8} {
				b := slices.Concat(make([]byte, ahead), it.bytes[:cut])
				r := pack.Read(b)
				for range ahead {
					r.Number(1)
				}
				wantLeft(t, "ahead", r, cut)
				it.read(r)
				wantBadReader(t, it.name, r)
			}
		}
	}
}

func TestWhatIsReadOfTooFewBytes(t *testing.T) {
	for _, size := range rightSizes {
		for n := range size {
			if got := pack.Read(bytes.Repeat([]byte{255}, n)).Number(size); got != 0 {
				t.Errorf("Number(%d) of %d bytes: got %d", size, n, got)
			}
		}
	}
	for n := range 32 {
		if got := pack.Read(bytes.Repeat([]byte{255}, n)).Hash(); got != (api.Hash{}) {
			t.Errorf("Hash of %d bytes: got %x", n, got)
		}
	}
	for _, c := range []struct{ length, there int }{{1, 0}, {2, 1}, {256, 1}, {256, 255}, {257, 256}, {longest, 0}, {longest, longest - 1}} {
		r := pack.Read(append(plainNumber(uint64(c.length), 2), sample(c.there)...))
		if got := r.Text(); got != "" {
			t.Errorf("Text of %d with %d bytes: got %d bytes", c.length, c.there, len(got))
		}
		wantBadReader(t, "Text", r)
	}
	for n := range 2 {
		r := pack.Read(make([]byte, n))
		if got := r.Text(); got != "" {
			t.Errorf("Text without its length: %q", got)
		}
		wantBadReader(t, "length", r)
	}
}

// A reader that is made bad with good bytes left reads none of them.
func TestBadReaderReadsZero(t *testing.T) {
	good := bytes.Repeat([]byte{1}, 400)
	for name, fail := range map[string]func(r *pack.Reader){
		"size 3":      func(r *pack.Reader) { r.Number(3) },
		"size 0":      func(r *pack.Reader) { r.Number(0) },
		"size MaxInt": func(r *pack.Reader) { r.Number(math.MaxInt) },
		"truth":       func(r *pack.Reader) { r.Truth() },
		"long text":   func(r *pack.Reader) { r.Number(1); r.Text() },
	} {
		r := pack.Read(slices.Concat([]byte{2, 2, 2}, good))
		fail(r)
		wantBadReader(t, name, r)
	}
	short := pack.Read(good[:7])
	short.Number(8)
	wantBadReader(t, "number", short)
	short = pack.Read(good[:31])
	short.Hash()
	wantBadReader(t, "hash", short)
}

func TestAskingChangesNothing(t *testing.T) {
	r := pack.Read([]byte{3, 4})
	for left := 2; left > 0; left-- {
		for range 3 {
			wantLeft(t, "asked", r, left)
		}
		if got := r.Number(1); got != uint64(5-left) {
			t.Errorf("got %d", got)
		}
	}
	wantLeft(t, "at the end", r, 0)
	r.Number(1)
	wantBadReader(t, "behind the end", r)
}

// Empty texts behind the last byte need bytes for their lengths all the same.
func TestEmptyTextNeedsItsLength(t *testing.T) {
	r := pack.Read([]byte{0, 0})
	if got := r.Text(); got != "" {
		t.Errorf("got %q", got)
	}
	wantLeft(t, "empty text", r, 0)
	r.Text()
	wantBadReader(t, "another one", r)
}

func TestNilReader(t *testing.T) {
	var r *pack.Reader
	wantBadReader(t, "nil", r)
	for _, size := range wrongSizes {
		if got := r.Number(size); got != 0 {
			t.Errorf("Number(%d): got %d", size, got)
		}
	}
}

// P3.3

func TestEachItemIsReadBack(t *testing.T) {
	wantRow(t, nil)
	for _, it := range someItems() {
		wantRow(t, []item{it})
	}
	for _, n := range textLengths {
		wantRow(t, []item{textItem(string(sample(n)))})
	}
}

func TestPairsAreReadBack(t *testing.T) {
	list := someItems()
	for _, a := range list {
		for _, b := range list {
			wantRow(t, []item{a, b})
		}
	}
}

// The rows are chosen by a plain rule, so that they are the same each time.
func TestMixedRowsAreReadBack(t *testing.T) {
	list := someItems()
	state := uint64(12345)
	for n := range 120 {
		row := make([]item, n)
		for i := range row {
			state = state*6364136223846793005 + 1442695040888963407
			row[i] = list[state>>33%uint64(len(list))]
		}
		wantRow(t, row)
	}
}

func TestLongRowsAreReadBack(t *testing.T) {
	var w pack.Writer
	var plain []byte
	for n := range uint64(50000) {
		w.Number(n, 4)
		plain = binary.BigEndian.AppendUint32(plain, uint32(n))
	}
	long := strings.Repeat("z", longest)
	for range 20 {
		w.Text(long)
		plain = append(append(plain, 255, 255), long...)
	}
	wantBytes(t, "long", &w, plain)
	r := pack.Read(w.Bytes())
	for n := range uint64(50000) {
		if got := r.Number(4); got != n {
			t.Fatalf("number %d: got %d", n, got)
		}
	}
	for k := range 20 {
		if r.Text() != long {
			t.Fatalf("text %d isn't read back", k)
		}
	}
	wantLeft(t, "long", r, 0)
}

func TestOneItemMoreIsBad(t *testing.T) {
	for _, it := range someItems() {
		for what, isZero := range zeroReads {
			var w pack.Writer
			it.write(&w)
			r := pack.Read(w.Bytes())
			it.read(r)
			if !isZero(r) {
				t.Errorf("%s behind a %s isn't zero", what, it.name)
			}
			wantBadReader(t, what+" behind a "+it.name, r)
		}
	}
}

// R2, R3 and R4

// overwrite changes all of a list's memory, its spare room too.
func overwrite(b []byte) {
	for i := range b[:cap(b)] {
		b[:cap(b)][i] ^= 0xa5
	}
}

func TestWhatIsReadStaysAsItIs(t *testing.T) {
	var w pack.Writer
	row := someItems()
	whole := slices.Concat(writeAll(&w, row), sample(80))
	before := bytes.Clone(whole)
	b := whole[:len(whole)-80]
	r := pack.Read(b)
	for _, it := range row {
		it.read(r)
		r.Left()
	}
	r.Number(8)
	r.Text()
	if !bytes.Equal(whole, before) {
		t.Error("what was handed in was changed")
	}
}

func TestWhatIsReadIsNotKept(t *testing.T) {
	var w pack.Writer
	row := someItems()
	b := writeAll(&w, row)
	r := pack.Read(b)
	for k, it := range row {
		overwrite(b)
		if !it.read(r) {
			t.Errorf("item %d, a %s, changed with what was handed in", k, it.name)
		}
	}
	wantLeft(t, "spoiled", r, 0)
}

func TestReadersAreApart(t *testing.T) {
	b := []byte{1, 2, 3}
	first, second := pack.Read(b), pack.Read(b)
	first.Number(2)
	first.Number(2)
	wantLeft(t, "second", second, 3)
	if got := second.Number(1); got != 1 {
		t.Errorf("got %d", got)
	}
	wantBadReader(t, "first", first)
}

func TestBytesShareNoMemory(t *testing.T) {
	var w pack.Writer
	var plain []byte
	for _, it := range someItems() {
		first, second := w.Bytes(), w.Bytes()
		overwrite(first)
		if !bytes.Equal(second, plain) {
			t.Fatalf("ahead of a %s: two answers share memory", it.name)
		}
		wantBytes(t, "spoiled", &w, plain)
		it.write(&w)
		if !bytes.Equal(second, plain) {
			t.Fatalf("a %s was written into an earlier answer", it.name)
		}
		plain = append(plain, it.bytes...)
		wantBytes(t, it.name, &w, plain)
	}
}

// What is written behind an answer must not come to stand in its spare room, nor the other way round.
func TestSpareRoomIsNotShared(t *testing.T) {
	var w pack.Writer
	for n := range uint64(200) {
		b := w.Bytes()
		grown := append(b, 0xee)
		w.Number(n, 1)
		if grown[n] != 0xee {
			t.Fatalf("byte %d was written into an answer's spare room", n)
		}
		grown[n] = 0xdd
		if got := w.Bytes(); got[n] != byte(n) {
			t.Fatalf("byte %d: got %d", n, got[n])
		}
	}
}

// Only memory that changes beneath a string shows whether the string was kept.
func TestTextsAreNotKept(t *testing.T) {
	memory := []byte("a text in memory that will change")
	before := string(memory)
	var w pack.Writer
	w.Text(unsafe.String(&memory[0], len(memory)))
	if string(memory) != before {
		t.Error("the text was changed")
	}
	overwrite(memory)
	wantBytes(t, "kept", &w, append([]byte{0, byte(len(before))}, before...))

	r := pack.Read(w.Bytes())
	twin := *r
	if unsafe.StringData(r.Text()) == unsafe.StringData(twin.Text()) {
		t.Error("two texts that were read share memory")
	}
}

func TestHashesAreNotKept(t *testing.T) {
	h := hashOf(9)
	var w pack.Writer
	w.Hash(h)
	h[0]++
	want := hashOf(9)
	wantBytes(t, "Hash", &w, want[:])
}

func TestWritersAreApart(t *testing.T) {
	var a, b pack.Writer
	a.Number(1, 1)
	b.Number(2, 1)
	a.Text("x")
	b.Text("y")
	wantBytes(t, "first", &a, []byte{1, 0, 1, 'x'})
	wantBytes(t, "second", &b, []byte{2, 0, 1, 'y'})
}

// A copy has the history of the first up to then, and of itself from then on.
func TestCopiesGoOnByThemselves(t *testing.T) {
	for n := range 40 {
		var w pack.Writer
		plain := sample(n)
		for _, b := range plain {
			w.Number(uint64(b), 1)
		}
		twin, spoiled := w, w
		w.Number(1, 1)
		later := w
		twin.Number(2, 1)
		spoiled.Number(1, 3)
		later.Text("b")
		wantBytes(t, "first", &w, append(slices.Clone(plain), 1))
		wantBytes(t, "copy", &twin, append(slices.Clone(plain), 2))
		wantBytes(t, "later copy", &later, append(slices.Clone(plain), 1, 0, 1, 'b'))
		wantBadWriter(t, "spoiled copy", &spoiled)
	}
	r := pack.Read([]byte{1, 2})
	twin := *r
	r.Number(2)
	r.Number(1)
	wantLeft(t, "copy", &twin, 2)
	wantBadReader(t, "first", r)
}

func TestNilAndEmptyMeanTheSame(t *testing.T) {
	var w pack.Writer
	if len(w.Bytes()) != 0 {
		t.Error("bytes of nothing")
	}
	for _, b := range [][]byte{nil, {}, w.Bytes()} {
		wantLeft(t, "no bytes", pack.Read(b), 0)
	}
}
