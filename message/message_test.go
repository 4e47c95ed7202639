package message_test

import (
	"bytes"
	"crypto/sha256"
	"encoding/binary"
	"encoding/hex"
	"fmt"
	"math"
	"reflect"
	"slices"
	"strings"
	"testing"

	"redactor/api"
	"redactor/frame"
	"redactor/message"
)

type Message = message.Message

const (
	headSize = 10
	topID    = 1<<32 - 1
)

func hashOf(s string) api.Hash { return sha256.Sum256([]byte(s)) }

// allBytes is a text of n bytes, of all values.
func allBytes(n int) string {
	b := make([]byte, n)
	for i := range b {
		b[i] = byte(i*i + 7*i + i>>8 + 131)
	}
	return string(b)
}

func edit(script string, quiet, extended bool) api.Edit {
	return api.Edit{Script: script, Flags: api.Flags{Quiet: quiet, Extended: extended}, Hash: hashOf(script)}
}

// tell keeps a failure readable, whatever the script is.
func tell(m Message) string {
	return fmt.Sprintf("{Kind %d From %d To %d ID %d Base %d Script %.20q (%d bytes) Flags %v Yes %v Code %d Commit %v Hashes %.4x %.4x %.4x}",
		m.Kind, m.From, m.To, m.ID, m.Base, m.Edit.Script, len(m.Edit.Script), m.Edit.Flags, m.Yes, m.Code, m.Commit, m.Edit.Hash, m.Hash, m.Root)
}

// plainFrame is a frame as layer 4's chapter has it, made by the library.
func plainFrame(kind byte, body []byte) []byte {
	label := binary.BigEndian.AppendUint16([]byte{kind}, uint16(len(body)))
	sum := sha256.Sum256(slices.Concat(label, body))
	return slices.Concat([]byte("rd\x01"), label, sum[:4], body)
}

func truth(b bool) byte {
	if b {
		return 1
	}
	return 0
}

// plainBody is the chapter's body of a right message, made by the library.
func plainBody(m Message) []byte {
	b := binary.BigEndian.AppendUint32([]byte{byte(m.From), byte(m.To)}, uint32(m.ID))
	switch {
	case m.Kind == 1:
		b = binary.BigEndian.AppendUint32(b, uint32(m.Base))
		b = append(b, truth(m.Edit.Flags.Quiet), truth(m.Edit.Flags.Extended))
		b = append(b, m.Edit.Hash[:]...)
		b = binary.BigEndian.AppendUint16(b, uint16(len(m.Edit.Script)))
		b = append(b, m.Edit.Script...)
	case m.Kind == 2 && m.Yes:
		b = slices.Concat(b, []byte{1}, m.Hash[:], m.Root[:])
	case m.Kind == 2:
		b = append(b, 0, byte(m.Code))
	case m.Kind == 3 || m.Kind == 6:
		b = append(b, truth(m.Commit))
	}
	return b
}

func plainBytes(m Message) []byte {
	return plainFrame(byte(m.Kind), plainBody(m))
}

// someMessages are right messages of each kind, with the edges of what each kind has.
func someMessages() []Message {
	var all []Message
	for _, id := range []uint64{1, 2, 255, 256, 1<<16 - 1, 1 << 16, 1<<24 + 5, 1 << 31, topID - 1, topID} {
		for _, base := range []uint64{0, 1, 255, 256, 70000, 1 << 31, topID} {
			all = append(all, Message{Kind: 1, To: 3, ID: id, Base: base, Edit: edit("s/a/b/", false, true)})
		}
		for _, commit := range []bool{false, true} {
			all = append(all, Message{Kind: 3, To: 2, ID: id, Commit: commit}, Message{Kind: 6, From: 4, To: 2, ID: id, Commit: commit})
		}
		all = append(all, Message{Kind: 4, From: 2, ID: id}, Message{Kind: 5, From: 3, To: 16, ID: id})
		all = append(all, Message{Kind: 2, From: 1, ID: id, Yes: true, Hash: hashOf("h"), Root: hashOf("r")})
	}
	for _, n := range []int{0, 1, 2, 100, 255, 256, 257, 499, 500} {
		for flags := range 4 {
			all = append(all, Message{Kind: 1, To: 16, ID: 9, Base: 4, Edit: edit(allBytes(n), flags&1 == 1, flags&2 == 2)})
		}
	}
	for code := api.ErrArg; code <= api.ErrState; code++ {
		all = append(all, Message{Kind: 2, From: 7, ID: 5, Code: code})
	}
	// Hashes of nought are hashes as others are.
	return append(all, Message{Kind: 1, To: 1, ID: 1}, Message{Kind: 2, From: 1, ID: 1, Yes: true},
		Message{Kind: 2, From: 1, ID: 1, Yes: true, Hash: hashOf("h")}, Message{Kind: 2, From: 1, ID: 1, Yes: true, Root: hashOf("r")})
}

// oneOfEachKind are the messages that tests change in one thing at a time.
func oneOfEachKind() []Message {
	return []Message{
		{Kind: 1, To: 3, ID: 77, Base: 5, Edit: edit("s/a/b/\np", true, false)},
		{Kind: 2, From: 3, ID: 77, Yes: true, Hash: hashOf("h"), Root: hashOf("r")},
		{Kind: 2, From: 3, ID: 77, Code: api.ErrSteps},
		{Kind: 3, To: 3, ID: 77, Commit: true},
		{Kind: 3, To: 3, ID: 77},
		{Kind: 4, From: 3, ID: 77},
		{Kind: 5, From: 3, To: 4, ID: 77},
		{Kind: 6, From: 4, To: 3, ID: 77, Commit: true},
		{Kind: 6, From: 4, To: 3, ID: 77},
	}
}

// wantRight sees that the message is formed, becomes these bytes, and comes out of them again.
func wantRight(t *testing.T, m Message, want []byte) {
	t.Helper()
	if !message.Formed(m) {
		t.Errorf("%s: not formed", tell(m))
	}
	if got, e := message.Encode(m); e != api.OK || !bytes.Equal(got, want) {
		t.Errorf("%s: got %.40x and %d, want %.40x", tell(m), got, e, want)
	}
	wantDecoded(t, want, m)
}

// wantWrong sees that the message is not formed, and not encoded.
func wantWrong(t *testing.T, m Message) {
	t.Helper()
	if message.Formed(m) {
		t.Errorf("%s: formed", tell(m))
	}
	if got, e := message.Encode(m); e != api.ErrArg || len(got) != 0 {
		t.Errorf("%s: got %.40x and %d, want no bytes and ErrArg", tell(m), got, e)
	}
}

func wantDecoded(t *testing.T, b []byte, want Message) {
	t.Helper()
	if got, e := message.Decode(b); e != api.OK || got != want {
		t.Errorf("%.40x: got %s and %d, want %s", b, tell(got), e, tell(want))
	}
	if got, e := message.Of(frame.Frame{Type: b[3], Body: b[headSize:]}); e != api.OK || got != want {
		t.Errorf("%.40x: of its frame %s and %d, want %s", b, tell(got), e, tell(want))
	}
}

// wantNotDecoded sees the error, and that the message beside it is zero.
func wantNotDecoded(t *testing.T, b []byte, want api.Errno) {
	t.Helper()
	if got, e := message.Decode(b); e != want || got != (Message{}) {
		t.Errorf("%.40x: got %s and %d, want nothing and %d", b, tell(got), e, want)
	}
}

// wantNoMessage sees that a frame is no message, and that its bytes are none.
func wantNoMessage(t *testing.T, kind byte, body []byte) {
	t.Helper()
	if got, e := message.Of(frame.Frame{Type: kind, Body: body}); e != api.ErrForm || got != (Message{}) {
		t.Errorf("type %d, body %.60x: got %s and %d, want nothing and ErrForm", kind, body, tell(got), e)
	}
	if len(body) <= api.MaxBody && kind != 0 {
		wantNotDecoded(t, plainFrame(kind, body), api.ErrForm)
	}
}

// P5.1: Formed and Encode

func TestKinds(t *testing.T) {
	got := []int{message.Propose, message.Vote, message.Decide, message.Ack, message.Ask, message.Tell}
	if !slices.Equal(got, []int{1, 2, 3, 4, 5, 6}) {
		t.Errorf("got %v", got)
	}
}

func TestKnownMessages(t *testing.T) {
	h, r := strings.Repeat("ab", 32), strings.Repeat("cd", 32)
	var hash, root api.Hash
	for i := range hash {
		hash[i], root[i] = 0xab, 0xcd
	}
	for _, c := range []struct {
		m    Message
		kind byte
		body string
	}{
		{Message{Kind: 1, To: 16, ID: 0x01020304, Base: 0x05060708, Edit: api.Edit{Script: "s/a/b/", Flags: api.Flags{Extended: true}, Hash: hash}}, 1, "0010" + "01020304" + "05060708" + "0001" + h + "0006" + "732f612f622f"},
		{Message{Kind: 1, To: 1, ID: 1, Edit: api.Edit{Flags: api.Flags{Quiet: true}, Hash: hash}}, 1, "0001" + "00000001" + "00000000" + "0100" + h + "0000"},
		{Message{Kind: 2, From: 9, ID: 2, Yes: true, Hash: hash, Root: root}, 2, "0900" + "00000002" + "01" + h + r},
		{Message{Kind: 2, From: 9, ID: 2, Code: api.ErrState}, 2, "0900" + "00000002" + "00" + "11"},
		{Message{Kind: 2, From: 9, ID: 2, Code: api.ErrArg}, 2, "0900" + "00000002" + "00" + "01"},
		{Message{Kind: 3, To: 2, ID: topID, Commit: true}, 3, "0002" + "ffffffff" + "01"},
		{Message{Kind: 3, To: 2, ID: topID}, 3, "0002" + "ffffffff" + "00"},
		{Message{Kind: 4, From: 2, ID: 0x01020304}, 4, "0200" + "01020304"},
		{Message{Kind: 5, From: 2, To: 1, ID: 256}, 5, "0201" + "00000100"},
		{Message{Kind: 6, From: 1, To: 2, ID: 256, Commit: true}, 6, "0102" + "00000100" + "01"},
	} {
		body, err := hex.DecodeString(c.body)
		if err != nil {
			t.Fatalf("bad bytes %q in the test", c.body)
		}
		wantRight(t, c.m, plainFrame(c.kind, body))
	}
}

func TestAnAcksFrameHasSixteenBytes(t *testing.T) {
	b, e := message.Encode(Message{Kind: message.Ack, From: 16, To: 3, ID: topID})
	if e != api.OK || len(b) != 16 {
		t.Errorf("got %x and %d", b, e)
	}
}

func TestMessagesOfEachKind(t *testing.T) {
	for _, m := range someMessages() {
		wantRight(t, m, plainBytes(m))
	}
}

func TestScriptsOfEachLength(t *testing.T) {
	for n := range api.MaxScript + 1 {
		m := Message{Kind: 1, To: 1, ID: 1, Edit: edit(allBytes(n), false, false)}
		wantRight(t, m, plainBytes(m))
	}
	for _, n := range []int{501, 502, 511, 512, 756, 999, 1000, 1001, 65535, 65536, 65537, 65536 + 500, 1 << 20} {
		wantWrong(t, Message{Kind: 1, To: 1, ID: 1, Edit: edit(allBytes(n), false, false)})
	}
}

func TestEachKindNumber(t *testing.T) {
	for kind := -300; kind <= 1000; kind++ {
		m := Message{Kind: kind, From: 1, ID: 1, Yes: kind == 2}
		if kind >= 1 && kind <= 6 {
			wantRight(t, m, plainBytes(m))
		} else {
			wantWrong(t, m)
			m.Yes = false
			wantWrong(t, m)
		}
	}
	for _, kind := range []int{math.MinInt, math.MaxInt, 256 + 4, 512 + 4, -252, 1<<32 + 4} {
		wantWrong(t, Message{Kind: kind, From: 1, ID: 1})
	}
}

func TestEachPairOfNodes(t *testing.T) {
	for _, m := range oneOfEachKind() {
		for from := -3; from <= 20; from++ {
			for to := -3; to <= 20; to++ {
				m.From, m.To = from, to
				if from != to && min(from, to) >= 0 && max(from, to) <= 16 {
					wantRight(t, m, plainBytes(m))
				} else {
					wantWrong(t, m)
				}
			}
		}
		for _, node := range []int{math.MinInt, math.MaxInt, 255, 256, 257, -256, 1 << 32, 1<<32 + 1} {
			m.From, m.To = node, 2
			wantWrong(t, m)
			m.From, m.To = 2, node
			wantWrong(t, m)
		}
	}
}

func TestNumbersOutOfBounds(t *testing.T) {
	for _, m := range oneOfEachKind() {
		for _, id := range []uint64{0, 1 << 32, 1<<32 + 1, 1 << 33, 1 << 63, math.MaxUint64} {
			x := m
			x.ID = id
			wantWrong(t, x)
		}
		for _, base := range []uint64{1 << 32, 1<<32 + 1, 1 << 40, 1 << 63, math.MaxUint64} {
			x := m
			x.Base = base
			wantWrong(t, x)
		}
	}
}

func TestCodes(t *testing.T) {
	for code := api.Errno(-300); code <= 600; code++ {
		m := Message{Kind: 2, From: 1, ID: 1, Code: code}
		if code >= api.ErrArg && code <= api.ErrState {
			wantRight(t, m, plainBytes(m))
		} else {
			wantWrong(t, m)
		}
	}
	for _, code := range []api.Errno{math.MinInt, math.MaxInt, 1<<32 + 1, 256 + 1} {
		wantWrong(t, Message{Kind: 2, From: 1, ID: 1, Code: code})
	}
}

// extras put something into one field each.
func extras() map[string]func(*Message) {
	lastByte := api.Hash{31: 1}
	return map[string]func(*Message){
		"Base":     func(m *Message) { m.Base = 1 },
		"Script":   func(m *Message) { m.Edit.Script = "p" },
		"Quiet":    func(m *Message) { m.Edit.Flags.Quiet = true },
		"Extended": func(m *Message) { m.Edit.Flags.Extended = true },
		"EditHash": func(m *Message) { m.Edit.Hash = lastByte },
		"Yes":      func(m *Message) { m.Yes = true },
		"Code":     func(m *Message) { m.Code = api.ErrArg },
		"Hash":     func(m *Message) { m.Hash = lastByte },
		"Root":     func(m *Message) { m.Root = lastByte },
		"Commit":   func(m *Message) { m.Commit = true },
	}
}

// What a kind doesn't have is zero.
func TestWhatAKindDoesNotHave(t *testing.T) {
	proposed := []string{"Base", "Script", "Quiet", "Extended", "EditHash"}
	for _, c := range []struct {
		m   Message
		has []string
	}{
		{Message{Kind: 1, To: 3, ID: 77}, proposed},
		{Message{Kind: 2, From: 3, ID: 77, Yes: true}, []string{"Yes", "Hash", "Root"}},
		{Message{Kind: 2, From: 3, ID: 77, Code: api.ErrSteps}, []string{"Code"}},
		{Message{Kind: 3, To: 3, ID: 77}, []string{"Commit"}},
		{Message{Kind: 4, From: 3, ID: 77}, nil},
		{Message{Kind: 5, From: 3, To: 4, ID: 77}, nil},
		{Message{Kind: 6, From: 4, To: 3, ID: 77}, []string{"Commit"}},
	} {
		wantRight(t, c.m, plainBytes(c.m))
		for name, put := range extras() {
			m := c.m
			put(&m)
			if slices.Contains(c.has, name) {
				wantRight(t, m, plainBytes(m))
			} else {
				wantWrong(t, m)
			}
		}
	}
}

func TestTheZeroMessage(t *testing.T) {
	wantWrong(t, Message{})
}

// P5.1: Of and Decode

func TestFramesOfOtherTypes(t *testing.T) {
	for _, m := range oneOfEachKind() {
		body := plainBody(m)
		for kind := range 256 {
			if kind == 0 || kind > 6 {
				wantNoMessage(t, byte(kind), body)
			}
		}
	}
	wantNotDecoded(t, plainFrame(0, plainBody(Message{Kind: 4, From: 1, ID: 1})), api.ErrForm)
}

// haveOneForm tells whether bodies of both kinds are of one form: a Decide and a Tell, an Ack and an Ask.
func haveOneForm(one, other int) bool {
	pair := [2]int{min(one, other), max(one, other)}
	return one == other || pair == [2]int{3, 6} || pair == [2]int{4, 5}
}

func TestBodiesOfOtherKinds(t *testing.T) {
	for _, m := range oneOfEachKind() {
		for kind := 1; kind <= 6; kind++ {
			if !haveOneForm(kind, m.Kind) {
				wantNoMessage(t, byte(kind), plainBody(m))
				continue
			}
			other := m
			other.Kind = kind
			wantDecoded(t, plainFrame(byte(kind), plainBody(m)), other)
		}
	}
}

func TestBodiesCutOffOrLonger(t *testing.T) {
	for _, m := range oneOfEachKind() {
		body := plainBody(m)
		for end := range body {
			wantNoMessage(t, byte(m.Kind), body[:end])
		}
		for _, more := range []string{"\x00", "\x01", "\xff", "p", "\x00\x00", "rd\x01", strings.Repeat("x", 400)} {
			wantNoMessage(t, byte(m.Kind), append(slices.Clone(body), more...))
		}
	}
	for kind := range 256 {
		wantNoMessage(t, byte(kind), nil)
		wantNoMessage(t, byte(kind), []byte{})
	}
}

// No frame has so long a body, but Of may be asked of one.
func TestBodiesThatNoFrameHas(t *testing.T) {
	for _, m := range oneOfEachKind() {
		for _, n := range []int{1001, 1 << 16, 1<<16 + 1, 1 << 20} {
			body := append(plainBody(m), make([]byte, n)...)
			wantNoMessage(t, byte(m.Kind), body)
			wantNoMessage(t, byte(m.Kind), body[:n])
		}
	}
}

func TestBodiesWithLongScripts(t *testing.T) {
	for _, n := range []int{501, 502, 900, 954, 955, 1000, 65535} {
		m := Message{Kind: 1, To: 1, ID: 1, Edit: edit(allBytes(n), false, false)}
		wantNoMessage(t, 1, plainBody(m))
	}
}

// Here the script's length says other than how many bytes are there.
func TestBodiesWithWrongLengths(t *testing.T) {
	m := Message{Kind: 1, To: 1, ID: 1, Edit: edit(allBytes(300), false, false)}
	body := plainBody(m)
	at := len(body) - 302
	for n := range 1 << 16 {
		if n == 300 {
			continue
		}
		binary.BigEndian.PutUint16(body[at:], uint16(n))
		if got, e := message.Of(frame.Frame{Type: 1, Body: body}); e != api.ErrForm || got != (Message{}) {
			t.Errorf("length %d: got %s and %d", n, tell(got), e)
		}
	}
}

func TestBodiesWithWrongNodes(t *testing.T) {
	for _, m := range oneOfEachKind() {
		body := plainBody(m)
		for from := range 256 {
			for to := range 256 {
				body[0], body[1] = byte(from), byte(to)
				if from != to && from <= 16 && to <= 16 {
					m.From, m.To = from, to
					wantDecoded(t, plainFrame(byte(m.Kind), body), m)
				} else if _, e := message.Of(frame.Frame{Type: byte(m.Kind), Body: body}); e != api.ErrForm {
					t.Errorf("kind %d from %d to %d: %d", m.Kind, from, to, e)
				}
			}
		}
	}
}

func TestBodiesWithTheNumberNought(t *testing.T) {
	for _, m := range oneOfEachKind() {
		m.ID = 0
		wantNoMessage(t, byte(m.Kind), plainBody(m))
	}
}

// truthAt is where a body has truths, counted from its beginning.
func truthAt(m Message) []int {
	switch m.Kind {
	case 1:
		return []int{10, 11}
	case 2, 3, 6:
		return []int{6}
	}
	return nil
}

func TestBodiesWithTruthsThatAreNone(t *testing.T) {
	for _, m := range oneOfEachKind() {
		for _, at := range truthAt(m) {
			body := plainBody(m)
			for value := 2; value < 256; value++ {
				body[at] = byte(value)
				wantNoMessage(t, byte(m.Kind), body)
			}
		}
	}
}

func TestBodiesWithEachCode(t *testing.T) {
	for code := range 256 {
		m := Message{Kind: 2, From: 1, ID: 1, Code: api.Errno(code)}
		if code >= 1 && code <= 17 {
			wantDecoded(t, plainBytes(m), m)
		} else {
			wantNoMessage(t, 2, plainBody(m))
		}
	}
}

// A vote of no has no hashes, and one of yes no code.
func TestVotesWithWhatTheOtherHas(t *testing.T) {
	no, yes := plainBody(Message{Kind: 2, From: 1, ID: 1, Code: 1}), plainBody(Message{Kind: 2, From: 1, ID: 1, Yes: true})
	no[6], yes[6] = 1, 0
	wantNoMessage(t, 2, no)
	wantNoMessage(t, 2, yes)
	yes[7] = 1
	wantNoMessage(t, 2, yes)
	wantNoMessage(t, 2, append(plainBody(Message{Kind: 2, From: 1, ID: 1, Code: 1}), make([]byte, 64)...))
	wantNoMessage(t, 2, append(plainBody(Message{Kind: 2, From: 1, ID: 1, Yes: true}), 1))
}

func TestDecodeOfNothing(t *testing.T) {
	wantNotDecoded(t, nil, api.ErrShort)
	wantNotDecoded(t, []byte{}, api.ErrShort)
}

func TestDecodeOfWhatIsCutOff(t *testing.T) {
	for _, m := range oneOfEachKind() {
		b := plainBytes(m)
		for end := range b {
			wantNotDecoded(t, b[:end], api.ErrShort)
		}
	}
}

func TestDecodeOfMoreThanAFrame(t *testing.T) {
	for _, m := range oneOfEachKind() {
		b := plainBytes(m)
		for _, more := range [][]byte{{0}, {1}, {'r'}, []byte("rd\x01"), b, b[:5], make([]byte, 2000)} {
			wantNotDecoded(t, slices.Concat(b, more), api.ErrForm)
		}
	}
}

// R6: layer 4's errors come first; what stands behind is asked for ahead of the message.
func TestDecodeAsksInOrder(t *testing.T) {
	for _, m := range oneOfEachKind() {
		right := plainBytes(m)
		for at := range right {
			for _, flip := range []byte{1, 2, 4, 8, 16, 32, 64, 128, 255} {
				b := slices.Clone(right)
				b[at] ^= flip
				for _, more := range []int{0, 1, 1200} {
					whole := append(slices.Clone(b), make([]byte, more)...)
					_, _, want := frame.Decode(whole)
					if want == api.OK {
						t.Fatalf("%x: a frame", whole)
					}
					wantNotDecoded(t, whole, want)
				}
			}
		}
	}
	noMessage := plainFrame(9, []byte("what"))
	wantNotDecoded(t, noMessage, api.ErrForm)
	wantNotDecoded(t, append(noMessage, 0), api.ErrForm)
	noMessage[6] ^= 1
	wantNotDecoded(t, noMessage, api.ErrSum)
	wantNotDecoded(t, noMessage[:12], api.ErrShort)
}

// P5.2

// mixer makes numbers by a plain rule, so that they are the same each time.
func mixer(state uint64) func(below int) int {
	return func(below int) int {
		state = state*6364136223846793005 + 1442695040888963407
		return int(state >> 33 % uint64(below))
	}
}

// mixedMessage is often a right one, and often wrong in one thing.
func mixedMessage(next func(int) int) Message {
	m := Message{Kind: next(7), From: next(19) - 1, To: next(19) - 1, ID: uint64(next(4)) << (next(32))}
	if next(3) == 0 {
		m.Base = uint64(next(3)) << next(33)
		m.Edit = edit(allBytes(next(520)), next(2) == 0, next(2) == 0)
		m.Kind = 1
	}
	if next(4) == 0 {
		m.Kind, m.Yes, m.Code = 2, next(2) == 0, api.Errno(next(20)*next(2))
	}
	if m.Kind == 2 && next(2) == 0 {
		m.Hash, m.Root = hashOf(allBytes(next(9))), hashOf(allBytes(next(7)))
	}
	if next(3) == 0 {
		m.Commit = true
	}
	return m
}

// isRight is the chapter's table, as a list of what may not be.
func isRight(m Message) bool {
	if m.Kind < 1 || m.Kind > 6 || m.From < 0 || m.To < 0 || m.From > 16 || m.To > 16 || m.From == m.To {
		return false
	}
	if m.ID == 0 || m.ID>>32 != 0 || m.Base>>32 != 0 || len(m.Edit.Script) > 500 {
		return false
	}
	if m.Kind != 1 && (m.Base != 0 || m.Edit != api.Edit{}) {
		return false
	}
	if m.Kind != 3 && m.Kind != 6 && m.Commit {
		return false
	}
	if m.Kind == 2 && !m.Yes {
		return m.Hash == api.Hash{} && m.Root == api.Hash{} && m.Code > 0 && m.Code < 18
	}
	if m.Kind == 2 {
		return m.Code == 0
	}
	return !m.Yes && m.Code == 0 && m.Hash == api.Hash{} && m.Root == api.Hash{}
}

func TestMixedMessages(t *testing.T) {
	next := mixer(5)
	right := 0
	for range 30000 {
		m := mixedMessage(next)
		if isRight(m) {
			right++
			wantRight(t, m, plainBytes(m))
		} else {
			wantWrong(t, m)
		}
	}
	if right < 3000 || right > 27000 {
		t.Errorf("%d of the mixed messages are right: too few on one side", right)
	}
}

// What is decoded is formed, and encoded as it stood.
func TestMixedBodies(t *testing.T) {
	next := mixer(2026)
	decoded := 0
	for range 60000 {
		all := oneOfEachKind()
		m := all[next(len(all))]
		body := plainBody(m)
		for range next(3) {
			body[next(min(len(body), 12))] = byte(next(20))
		}
		if next(4) == 0 {
			body = append(body, byte(next(256)))
		}
		if next(4) == 0 {
			body = body[:next(len(body)+1)]
		}
		b := plainFrame(byte(m.Kind), body)
		got, e := message.Decode(b)
		if e != api.OK {
			wantNoMessage(t, byte(m.Kind), body)
			continue
		}
		decoded++
		if again, e := message.Encode(got); e != api.OK || !bytes.Equal(again, b) || !isRight(got) || !message.Formed(got) {
			t.Errorf("%.40x: decoded as %s, encoded as %.40x, %d", b, tell(got), again, e)
		}
	}
	if decoded < 6000 || decoded > 54000 {
		t.Errorf("%d of the mixed bodies are messages: too few on one side", decoded)
	}
}

func TestWhatWasEncodedIsDecoded(t *testing.T) {
	for _, m := range someMessages() {
		b, e := message.Encode(m)
		if e != api.OK {
			t.Fatalf("%s: %d", tell(m), e)
		}
		wantDecoded(t, b, m)
		f, n, e := frame.Decode(b)
		if e != api.OK || n != len(b) || int(f.Type) != m.Kind {
			t.Errorf("%s: its bytes are no frame of its kind: %.40x", tell(m), b)
		}
	}
}

// R2, R3 and R4

// overwrite changes all of a list's memory, its spare room too.
func overwrite(b []byte) {
	for i := range b[:cap(b)] {
		b[:cap(b)][i] ^= 0xa5
	}
}

func TestWhatIsHandedInStaysAsItIs(t *testing.T) {
	for _, m := range oneOfEachKind() {
		for _, more := range []int{0, 1, 80} {
			whole := append(plainBytes(m), allBytes(80)...)
			before := bytes.Clone(whole)
			end := len(whole) - 80 + more
			message.Decode(whole[:end])
			message.Decode(whole[:end/2])
			message.Of(frame.Frame{Type: byte(m.Kind), Body: whole[headSize:end]})
			if !bytes.Equal(whole, before) {
				t.Errorf("kind %d: the bytes, or their spare room, were changed", m.Kind)
			}
		}
	}
}

// A script in the bytes that were handed in would change with them.
func TestWhatIsHandedInIsNotKept(t *testing.T) {
	for _, m := range someMessages() {
		b := plainBytes(m)
		got, _ := message.Decode(b)
		overwrite(b)
		body := plainBody(m)
		other, _ := message.Of(frame.Frame{Type: byte(m.Kind), Body: body})
		overwrite(body)
		if got != m || other != m {
			t.Errorf("kind %d: the bytes are kept", m.Kind)
		}
	}
}

func TestAnswersShareNoMemory(t *testing.T) {
	for _, m := range someMessages() {
		first, _ := message.Encode(m)
		second, _ := message.Encode(m)
		overwrite(first)
		if !bytes.Equal(second, plainBytes(m)) {
			t.Errorf("%s: its bytes share memory", tell(m))
		}
		wantRight(t, m, plainBytes(m))
	}
}

func TestAskedAgainTheAnswerIsTheSame(t *testing.T) {
	for range 3 {
		for _, m := range oneOfEachKind() {
			wantRight(t, m, plainBytes(m))
			wantNotDecoded(t, plainBytes(m)[:12], api.ErrShort)
		}
		wantWrong(t, Message{})
	}
}

// A field that were added would be one that no kind has.
func TestFieldsOfAMessage(t *testing.T) {
	var names []string
	for i := range reflect.TypeFor[Message]().NumField() {
		names = append(names, reflect.TypeFor[Message]().Field(i).Name)
	}
	want := []string{"Kind", "From", "To", "ID", "Base", "Edit", "Yes", "Code", "Hash", "Root", "Commit"}
	if !slices.Equal(names, want) {
		t.Errorf("got %v, want %v", names, want)
	}
}
