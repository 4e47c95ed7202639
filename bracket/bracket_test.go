package bracket_test

import (
	"fmt"
	"math"
	"slices"
	"strings"
	"testing"

	"redactor/api"
	"redactor/bracket"
)

// maxPrinted is how long what Print answers may be.
const maxPrinted = 1100

// truths is a set by a truth for each byte, so that it needs nothing of the package.
type truths [256]bool

// set is the truths as a Set, by the chapter's words on its bits.
func (l truths) set() bracket.Set {
	var s bracket.Set
	for c, has := range l {
		if has {
			s[c/64] += 1 << (c % 64)
		}
	}
	return s
}

func (l truths) not() truths {
	for c := range l {
		l[c] = !l[c]
	}
	return l
}

// add is the truths with the bytes from from to to.
func (l truths) add(from, to byte) truths {
	for c := range l {
		l[c] = l[c] || int(from) <= c && c <= int(to)
	}
	return l
}

// of is the set of these bytes.
func of(text string) truths {
	var l truths
	for i := range len(text) {
		l[text[i]] = true
	}
	return l
}

// span is the set of the bytes from from to to.
func span(from, to byte) truths { return truths{}.add(from, to) }

func plus(a, b truths) truths {
	for c := range a {
		a[c] = a[c] || b[c]
	}
	return a
}

// chosen makes numbers by a plain rule, so that they are the same each time.
func chosen(seed uint64) func(below int) int {
	return func(below int) int {
		seed = seed*6364136223846793005 + 1442695040888963407
		return int(seed >> 33 % uint64(below))
	}
}

// someSets are sets of many kinds: of no byte, one, two and all, of rows with gaps, and mixed ones.
func someSets() []truths {
	list := []truths{{}, truths{}.not()}
	for c := range 256 {
		list = append(list, span(byte(c), byte(c)), span(byte(c), 255), span(0, byte(c)))
		list = append(list, of(string([]byte{byte(c), ']'})), of(string([]byte{byte(c), '^', '-'})))
	}
	for row := 1; row <= 5; row++ {
		for gap := 1; gap <= 5; gap++ {
			for start := range row + gap {
				var l truths
				for c := range l {
					l[c] = (c+start)%(row+gap) < row
				}
				list = append(list, l)
			}
		}
	}
	next := chosen(7)
	for range 3000 {
		var l truths
		often := 1 + next(20)
		for c := range l {
			l[c] = next(20) < often
		}
		list = append(list, l)
	}
	for _, l := range slices.Clone(list) {
		list = append(list, l.not())
	}
	return list
}

// P7.1

func TestZeroSetIsEmpty(t *testing.T) {
	var none bracket.Set
	for c := range 256 {
		if none.Has(byte(c)) {
			t.Errorf("the zero set has %d", c)
		}
	}
	if none.Len() != 0 {
		t.Errorf("the zero set has %d bytes", none.Len())
	}
}

func TestEachByteHasItsBit(t *testing.T) {
	for c := range 256 {
		var want bracket.Set
		want[c/64] = 1 << (c % 64)
		if got := (bracket.Set{}).With(byte(c), byte(c)); got != want {
			t.Errorf("With(%d, %d): %x, want %x", c, c, got, want)
		}
		for other := range 256 {
			if want.Has(byte(other)) != (other == c) {
				t.Errorf("the set of %d and the byte %d: %v", c, other, want.Has(byte(other)))
			}
		}
	}
}

func TestHasNotAndLen(t *testing.T) {
	for _, l := range someSets() {
		s := l.set()
		n := 0
		for c, has := range l {
			if s.Has(byte(c)) != has {
				t.Fatalf("%x: Has(%d) is %v", s, c, !has)
			}
			if has {
				n++
			}
		}
		if s.Len() != n || s.Not() != l.not().set() || s.Not().Len() != 256-n || s.Not().Not() != s {
			t.Fatalf("%x has %d bytes: Len %d, Not %x", s, n, s.Len(), s.Not())
		}
	}
}

func TestWithAllBytesFromOneToAnother(t *testing.T) {
	base := of("\x00\n-]az\x7f\x80\xfe")
	for from := range 256 {
		for to := range 256 {
			if got := (bracket.Set{}).With(byte(from), byte(to)); got != span(byte(from), byte(to)).set() {
				t.Fatalf("With(%d, %d): %x", from, to, got)
			}
			if got := base.set().With(byte(from), byte(to)); got != base.add(byte(from), byte(to)).set() {
				t.Fatalf("With(%d, %d) of more: %x", from, to, got)
			}
		}
	}
}

// What a call makes of a set is another one.
func TestSetsStayAsTheyAre(t *testing.T) {
	s := of("abc").set()
	s.With(0, 255)
	s.Not()
	bracket.Print(s)
	if s != of("abc").set() {
		t.Errorf("it became %x", s)
	}
}

// classes are the chapter's classes, by all of their bytes.
func classes() map[string]truths {
	upper, lower := of("ABCDEFGHIJKLMNOPQRSTUVWXYZ"), of("abcdefghijklmnopqrstuvwxyz")
	digit := of("0123456789")
	signs := of("!\"#$%&'()*+,-./:;<=>?@[\\]^_`{|}~")
	letters := plus(upper, lower)
	seen := plus(plus(letters, digit), signs)
	return map[string]truths{
		"upper":  upper,
		"lower":  lower,
		"alpha":  letters,
		"digit":  digit,
		"alnum":  plus(letters, digit),
		"xdigit": of("0123456789ABCDEFabcdef"),
		"blank":  of(" \t"),
		"space":  of(" \t\n\v\f\r"),
		"cntrl":  plus(span(0, 31), of("\x7f")),
		"print":  plus(seen, of(" ")),
		"graph":  seen,
		"punct":  signs,
	}
}

func TestClasses(t *testing.T) {
	for name, want := range classes() {
		if s, ok := bracket.Class(name); !ok || s != want.set() {
			t.Errorf("%q: %x, %v, want %x", name, s, ok, want.set())
		}
	}
}

// noClasses are names that no class has.
func noClasses() []string {
	return []string{"", " ", "word", "Upper", "ALPHA", "alph", "alphaa", "alpha ", " alpha", "[:alpha:]", ":alpha:", "alpha:", "alpha\n", "alpha\x00", "ascii", "none", "a", "digit digit", "\xff", strings.Repeat("alpha", 1000)}
}

func TestNoClasses(t *testing.T) {
	for _, name := range noClasses() {
		if s, ok := bracket.Class(name); ok || s != (bracket.Set{}) {
			t.Errorf("%.30q: %x, %v", name, s, ok)
		}
	}
}

// P7.2, Parse

// wantSet sees that a bracket expression is read as a set, whatever stands ahead of it and behind it.
func wantSet(t *testing.T, s string, want truths) {
	t.Helper()
	for _, ahead := range []string{"", "y", "[", "[a", "\\", "[[.", "\n"} {
		for _, behind := range []string{"", "z", "]", "-z]", "]]", "\n", ".]", "[a]"} {
			set, n, e := bracket.Parse(ahead+s+behind, len(ahead))
			if e != api.OK || n != len(ahead)+len(s) || set != want.set() {
				t.Errorf("%q at %d: %x, %d, %v, want %x, %d", ahead+s+behind, len(ahead), set, n, e, want.set(), len(ahead)+len(s))
			}
		}
	}
}

// wantNone sees that no bracket expression is read, whatever stands ahead of the place.
func wantNone(t *testing.T, s string) {
	t.Helper()
	for _, ahead := range []string{"", "y", "[", "[a", "\n"} {
		set, n, e := bracket.Parse(ahead+s, len(ahead))
		if e != api.ErrPattern || n != 0 || set != (bracket.Set{}) {
			t.Errorf("%.60q at %d: %x, %d, %v, want ErrPattern", ahead+s, len(ahead), set, n, e)
		}
	}
}

// expressions are bracket expressions, each with what it is.
func expressions() map[string]truths {
	digits := of("0123456789")
	return map[string]truths{
		// Signs that are bytes.
		"[a]": of("a"), "[abc]": of("abc"), "[aab]": of("ab"), "[cba]": of("abc"), "[ ]": of(" "), "[\x00\xff]": of("\x00\xff"), "[\t]": of("\t"),
		"[.]": of("."), "[*]": of("*"), "[.=:]": of(".=:"), "[$/&]": of("$/&"), "[(a|b)]": of("(a|b)"), "[,;{}]": of(",;{}"), "[é]": of("é"),
		// A ] that is the first member, a ^ at the beginning and elsewhere.
		"[]]": of("]"), "[]a]": of("]a"), "[^]]": of("]").not(), "[^]a]": of("]a").not(), "[]^]": of("]^"), "[^]^]": of("]^").not(),
		"[^a]": of("a").not(), "[^a-c]": of("abc").not(), "[^^]": of("^").not(), "[a^]": of("a^"), "[^^^]": of("^").not(), "[^-]": of("-").not(), "[-^]": of("-^"),
		"[^\\n]": of("\n").not(), "[^[:digit:]]": digits.not(), "[^[=a=]]": of("a").not(), "[^\x00-\xff]": {}, "[\x00-\xff]": truths{}.not(),
		// Ranges.
		"[a-c]": of("abc"), "[a-a]": of("a"), "[a-bx]": of("abx"), "[a-bx-z]": of("abxyz"), "[a-cb-d]": of("abcd"), "[]-a]": of("]^_`a"), "[^]-a]": of("]^_`a").not(),
		"[A-[]": span('A', '['), "[A-\\]": span('A', '\\'), "[A-[b]": plus(span('A', '['), of("b")), "[[-a]": span('[', 'a'), "[\\-a]": span('\\', 'a'), "[^-a]": of("-a").not(), "[+-^]": span('+', '^'), "[^--a]": span('-', 'a').not(),
		"[\x00-\x7f]": span(0, 127), "[\x80-\xff]": span(128, 255), "[\t-\r]": span(9, 13), "[!-~]": span('!', '~'),
		// A - that makes none.
		"[-]": of("-"), "[--]": of("-"), "[a-]": of("a-"), "[-a]": of("-a"), "[ab-]": of("ab-"), "[]-]": of("]-"), "[^a-]": of("a-").not(), "[^--]": of("-").not(), "[-a-]": of("-a"),
		"[a-c-e]": of("abc-e"), "[a-c-]": of("abc-"), "[a-c--]": of("abc-"), "[a-c--/]": of("abc-./"), "[a-c--b]": span('-', 'c'), "[a-c-[:digit:]]": plus(digits, of("abc-")), "[a-c-e-g]": of("abc-efg"), "[-a-c]": of("-abc"),
		"[[=q=]-z]": of("q-z"), "[[=q=]-]": of("q-"), "[[=+=]--]": of("+-"), "[[=+=]--/]": of("+-./"), "[[:digit:]-z]": plus(digits, of("-z")), "[[:digit:]-]": plus(digits, of("-")), "[[:digit:]--/]": plus(digits, of("-./")), "[[:digit:]-[:blank:]]": plus(digits, of("- \t")), "[[:digit:]-[=a=]]": plus(digits, of("-a")),
		// A - that is a range's sign.
		"[+--]": of("+,-"), "[--/]": of("-./"), "[---]": of("-"), "[a+--]": of("a+,-"), "[^+--]": of("+,-").not(), "[+-[.-.]]": of("+,-"), "[+-[.-.]a]": of("+,-a"), "[[.-.]--]": of("-"), "[[.-.]-/]": of("-./"), "[--[.-.]]": of("-"), "[a-c---]": of("abc-"),
		// Bytes in [. and .], and in [= and =].
		"[[.a.]]": of("a"), "[[.-.]]": of("-"), "[[.].]]": of("]"), "[[.[.]]": of("["), "[[.^.]]": of("^"), "[[...]]": of("."), "[[.=.]]": of("="), "[[.\\.]]": of("\\"), "[[.\xff.]]": of("\xff"), "[[.\x00.]]": of("\x00"), "[[. .]]": of(" "),
		"[[.a.]-[.c.]]": of("abc"), "[[.a.]-c]": of("abc"), "[a-[.c.]]": of("abc"), "[Z-[.].]]": span('Z', ']'), "[[.[.]-[.].]]": of("[\\]"), "[[.a.]-]": of("a-"), "[a[.b.]c]": of("abc"), "[[.a.][.b.]]": of("ab"), "[[...]-/]": of("./"), "[^[.^.]]": of("^").not(), "[[.\\.]n]": of("\\n"), "[[.a.]b-d]": of("abcd"), "[a[.].]]": of("a]"), "[[.].]-a]": span(']', 'a'),
		"[[=a=]]": of("a"), "[[===]]": of("="), "[[=]=]]": of("]"), "[[=[=]]": of("["), "[[=-=]]": of("-"), "[[=^=]]": of("^"), "[[=.=]]": of("."), "[[=:=]]": of(":"), "[[=\\=]]": of("\\"), "[[=\xff=]]": of("\xff"), "[a[=b=]c]": of("abc"), "[[=a=][=b=]]": of("ab"), "[[=a=]b-d]": of("abcd"), "[[=\\=]n]": of("\\n"), "[^[=]=]]": of("]").not(),
		// Line feeds, and other backslashes.
		"[\\n]": of("\n"), "[a\\nb]": of("a\nb"), "[\\nn]": of("\nn"), "[\\n-\\n]": of("\n"), "[\\n-\r]": span(10, 13), "[\t-\\n]": span(9, 10), "[\\n-]": of("\n-"), "[\\n-[.n.]]": span(10, 'n'), "[]\\n]": of("]\n"),
		"[\\]": of("\\"), "[\\\\]": of("\\"), "[\\\\n]": of("\\\n"), "[\\d]": of("\\d"), "[\\t]": of("\\t"), "[\\N]": of("\\N"), "[a\\]": of("a\\"), "[\\-]": of("\\-"), "[\\.]": of("\\."), "[\\^]": of("\\^"), "[^\\]": of("\\").not(), "[\\[]": of("\\["), "[\\[.a.]]": of("\\a"), "[[\\n]": of("[\n"),
		// A [ ahead of other signs.
		"[[]": of("["), "[[a]": of("[a"), "[a[]": of("a["), "[[[]": of("["), "[[^]": of("[^"), "[^[]": of("[").not(), "[[[.a.]]": of("[a"), "[[[=a=]]": of("[a"), "[[[:digit:]]": plus(digits, of("[")), "[][]": of("[]"), "[^][]": of("[]").not(), "[[\\]": of("[\\"), "[[-]": of("[-"), "[a[b]": of("a[b"),
		// Classes, and what looks like them.
		"[[:digit:]]": digits, "[[:digit:]x]": plus(digits, of("x")), "[x[:digit:]]": plus(digits, of("x")), "[[:digit:][:blank:]]": plus(digits, of(" \t")), "[:digit:]": of(":digt"), "[:a]": of(":a"), "[=a=]": of("=a"), "[.a.]": of(".a"), "[[:digit:][]": plus(digits, of("[")),
	}
}

func TestExpressions(t *testing.T) {
	for s, want := range expressions() {
		wantSet(t, s, want)
	}
}

func TestEachClassInBrackets(t *testing.T) {
	for name, want := range classes() {
		wantSet(t, "[[:"+name+":]]", want)
		wantSet(t, "[^[:"+name+":]]", want.not())
		wantSet(t, "[][:"+name+":]+-[.-.]]", plus(want, of("]+,-")))
		for _, wrong := range []string{"[[:" + name, "[[:" + name + ":", "[[:" + name + "]]", "[[:" + name + ":]", "[[:" + name + "=]]", "[[=" + name + "=]]", "[[." + name + ".]]", "[[: " + name + ":]]", "[[:" + name + "\n:]]", "[[:^" + name + ":]]", "[a-[:" + name + ":]]", "[\x00-[:" + name + ":]]"} {
			wantNone(t, wrong)
		}
	}
	for _, name := range noClasses() {
		wantNone(t, "[[:"+name+":]]")
		wantNone(t, "[a[:"+name+":]b]")
	}
}

// plain tells whether a byte alone is a member wherever it stands, and never more.
func plain(c byte) bool { return !strings.Contains("[]^-\\\n", string([]byte{c})) }

func TestEachByte(t *testing.T) {
	for c := range 256 {
		one := string([]byte{byte(c)})
		if plain(byte(c)) {
			wantSet(t, "["+one+"]", of(one))
			wantSet(t, "["+one+one+"]", of(one))
			wantSet(t, "[^"+one+"]", of(one).not())
			wantSet(t, "[a"+one+"]", of("a"+one))
			wantSet(t, "[]"+one+"]", of("]"+one))
		}
		if c != '\n' {
			wantSet(t, "[[."+one+".]]", of(one))
			wantSet(t, "[[="+one+"=]]", of(one))
		}
		if c != '\n' && c != 'n' && c != ']' {
			wantSet(t, "[\\"+one+"]", of("\\"+one))
		}
	}
}

// P7.2's examples.
func TestExamples(t *testing.T) {
	wantSet(t, "[]a]", of("]a"))
	wantSet(t, "[^a-c]", of("abc").not())
	wantSet(t, "[a-]", of("a-"))
	wantSet(t, "[[:digit:]x]", of("0123456789x"))
}

// sign is a byte as a sign that means it wherever it stands.
func sign(c int) string {
	if c == '\n' {
		return "\\n"
	}
	return "[." + string([]byte{byte(c)}) + ".]"
}

func TestAllRanges(t *testing.T) {
	for from := range 256 {
		for to := range 256 {
			s := "[" + sign(from) + "-" + sign(to) + "]"
			set, n, e := bracket.Parse(s, 0)
			if from > to {
				if e != api.ErrPattern || n != 0 || set != (bracket.Set{}) {
					t.Fatalf("%q: %x, %d, %v", s, set, n, e)
				}
				continue
			}
			if e != api.OK || n != len(s) || set != span(byte(from), byte(to)).set() {
				t.Fatalf("%q: %x, %d, %v", s, set, n, e)
			}
			plainly := "[" + string([]byte{byte(from), '-', byte(to)}) + "]"
			if other, _, e := bracket.Parse(plainly, 0); plain(byte(from)) && plain(byte(to)) && (e != api.OK || other != set) {
				t.Fatalf("%q: %x, %v", plainly, other, e)
			}
		}
	}
}

// noExpressions begin with a [, and are none.
func noExpressions() []string {
	return []string{
		// It isn't ended.
		"[", "[^", "[]", "[^]", "[a", "[^a", "[]a", "[ab", "[a-", "[a-b", "[\\", "[\\n", "[[", "[[a", "[-", "[--", "[^-", "[[.", "[[=", "[[:", "[[.a", "[[=a", "[[.a.", "[[=a=", "[[.a.]", "[[=a=]", "[[:digit:]", "[[:digit:", "[[.]", "[[=]", "[[:]", "[[.]]", "[[=]]", "[[:]]", "[a-[.c.]", "[[.].]", "[[=]=]", "[a[.]", "[a-[.",
		// Ranges.
		"[b-a]", "[z-a]", "[a-Z]", "[\x80-\x7f]", "[\xff-\x00]", "[xb-a]", "[a-bd-c]", "[[.b.]-[.a.]]", "[[.b.]-a]", "[b-[.a.]]", "[\\n-\t]", "[a-\\n]", "[a-\\]", "[a-[]", "[\r-\\n]",
		"[a-[:digit:]]", "[+-[:digit:]]", "[a-[=b=]]", "[a-[=a=]]", "[[.a.]-[=b=]]", "[\\n-[:digit:]]", "[]-[=a=]]", "[x-[=y=]-z]",
		"[a--]", "[a--b]", "[+--b]", "[+--,]", "[+---]", "[----]", "[-----]", "[---a]", "[+--[:digit:]]", "[+--[=a=]]", "[+--[.-.]]", "[+--\\n]", "[+--[]", "[[.+.]--a]", "[,--.]",
		// What stands in brackets within brackets.
		"[[..]]", "[[==]]", "[[.ab.]]", "[[=ab=]]", "[[.\\n.]]", "[[=\\n=]]", "[[.a=]]", "[[=a.]]", "[[.a:]]", "[[=a:]]", "[[.a]]", "[[=a]]", "[[.a-]]", "[[.é.]]", "[[.a.", "[[.a.x]]", "[[=a=x]]", "[[. a.]]", "[[.a .]]", "[[.[.a.].]]",
		"[[:none:]]", "[[::]]", "[[:a]:]]", "[[:digit.]]", "[[:digit:x]]", "[[: :]]", "[[:digit:digit:]]", "[[:Digit:]]", "[[:digit:][:none:]]",
		// Line feeds.
		"[\n]", "[\n\n]", "[a\nb]", "[a\n]", "[\na]", "[a\n", "[^\n]", "[[.\n.]]", "[[=\n=]]", "[[:\n:]]", "[[:digit\n:]]", "[\\\n]", "[\\n\n]", "[a-\n]", "[a-b\n]", "[\t-\n]", "[\n-\r]", "[]\n]", "[[\n]",
	}
}

func TestNoExpressions(t *testing.T) {
	for _, s := range noExpressions() {
		wantNone(t, s)
	}
}

func TestNothingStandsThere(t *testing.T) {
	for _, c := range []struct {
		s  string
		at int
	}{
		{"", 0}, {"", 1}, {"", -1}, {"a", 0}, {"a", 1}, {"]", 0}, {"^", 0}, {"\\[a]", 0}, {"a[b]", 0}, {"[a]", 1}, {"[a]", 2}, {"[a]", 3}, {"[a]", 4}, {"[a]", -1}, {"[a]", -3},
		{"[a]", math.MaxInt}, {"[a]", math.MinInt}, {"[a]", 1 << 32}, {"\n", 0}, {"\x00", 0}, {"[", 1}, {"[a][", 4},
	} {
		if set, n, e := bracket.Parse(c.s, c.at); e != api.ErrArg || n != 0 || set != (bracket.Set{}) {
			t.Errorf("%q at %d: %x, %d, %v", c.s, c.at, set, n, e)
		}
	}
}

// Without its end an expression is none, and with a line feed in it neither.
func TestSpoiledExpressions(t *testing.T) {
	for s := range expressions() {
		for end := 1; end < len(s); end++ {
			if set, n, e := bracket.Parse(s[:end], 0); e != api.ErrPattern || n != 0 || set != (bracket.Set{}) {
				t.Errorf("%q of %q: %x, %d, %v", s[:end], s, set, n, e)
			}
			wantNone(t, s[:end]+"\n"+s[end:])
		}
	}
}

// token is one of the pieces that members are made of, as it is written; kind is one of "sign", "equal", "class" and "wrong".
type token struct {
	kind, text string
	c          byte
}

// firstToken is the piece that s begins with.
func firstToken(s string) token {
	two := s[:min(len(s), 2)]
	switch {
	case two == "[." && len(s) >= 5 && s[3:5] == ".]" && s[2] != '\n':
		return token{"sign", s[:5], s[2]}
	case two == "[=" && len(s) >= 5 && s[3:5] == "=]" && s[2] != '\n':
		return token{"equal", s[:5], s[2]}
	case two == "[:" && strings.Contains(s[2:], ":]"):
		return token{"class", s[:strings.Index(s[2:], ":]")+4], 0}
	case two == "[.", two == "[=", two == "[:", s[0] == '\n':
		return token{"wrong", s[:1], 0}
	case two == "\\n":
		return token{"sign", two, '\n'}
	}
	return token{"sign", s[:1], s[0]}
}

// reckoned is what the text s, which begins with a [, is by the chapter's words: cut into pieces first.
func reckoned(s string) (want truths, n int, ok bool) {
	not := strings.HasPrefix(s, "[^")
	begin := 1
	if not {
		begin = 2
	}
	var list []token
	for i := begin; i < len(s); i += len(list[len(list)-1].text) {
		list = append(list, firstToken(s[i:]))
	}
	// Behind the last piece stand some that nothing is made of.
	list = append(list, make([]token, 3)...)
	n = begin
	for i := 0; i == 0 || list[i].text != "]"; {
		used := 1
		switch is := list[i]; {
		case is.kind == "equal":
			want = want.add(is.c, is.c)
		case is.kind == "class":
			class, found := classes()[is.text[2:len(is.text)-2]]
			if !found {
				return truths{}, 0, false
			}
			want = plus(want, class)
		case is.kind != "sign":
			return truths{}, 0, false
		case list[i+1].text == "-" && list[i+2].text != "]":
			used = 3
			to := list[i+2]
			if to.kind != "sign" || to.c < is.c || to.text == "-" && list[i+3].text != "]" {
				return truths{}, 0, false
			}
			want = want.add(is.c, to.c)
		default:
			want = want.add(is.c, is.c)
		}
		for range used {
			n += len(list[i].text)
			i++
		}
	}
	if not {
		want = want.not()
	}
	return want, n + 1, true
}

// wantReckoned sees that s is read as it is reckoned, and that what is right is printed and read again.
func wantReckoned(t *testing.T, s string) (right bool) {
	t.Helper()
	want, n, ok := reckoned(s)
	set, got, e := bracket.Parse(s, 0)
	if !ok {
		if e != api.ErrPattern || got != 0 || set != (bracket.Set{}) {
			t.Fatalf("%q: %x, %d, %v, want ErrPattern", s, set, got, e)
		}
		return false
	}
	if e != api.OK || got != n || set != want.set() {
		t.Fatalf("%q: %x, %d, %v, want %x, %d", s, set, got, e, want.set(), n)
	}
	wantPrinted(t, want)
	return true
}

func TestReckoning(t *testing.T) {
	for s, want := range expressions() {
		if l, n, ok := reckoned(s); l != want || n != len(s) || !ok {
			t.Errorf("%q: %x, %d, %v, want %x", s, l.set(), n, ok, want.set())
		}
	}
	for _, s := range noExpressions() {
		if l, n, ok := reckoned(s); ok {
			t.Errorf("%q: %x, %d", s, l.set(), n)
		}
	}
}

// allTexts gives all texts of so many of these bytes to do.
func allTexts(signs string, size int, do func(s string)) {
	text := make([]byte, size)
	var fill func(at int)
	fill = func(at int) {
		if at == size {
			do(string(text))
			return
		}
		for i := range len(signs) {
			text[at] = signs[i]
			fill(at + 1)
		}
	}
	fill(0)
}

func TestAllShortTexts(t *testing.T) {
	right := 0
	for _, c := range []struct {
		signs string
		size  int
	}{
		{"[]^-ab.=:\\n\n+", 1}, {"[]^-ab.=:\\n\n+", 2}, {"[]^-ab.=:\\n\n+", 3}, {"[]^-ab.=:\\n\n+", 4}, {"[]-a.=\\n", 5}, {"[]-a.+", 6}, {"[]-a.", 7},
	} {
		allTexts(c.signs, c.size, func(s string) {
			if wantReckoned(t, "["+s) {
				right++
			}
		})
	}
	if right < 10000 {
		t.Errorf("only %d texts were right", right)
	}
}

func TestMixedTexts(t *testing.T) {
	next := chosen(2026)
	right := 0
	parts := []string{"]", "]", "-", "-", "-", "^", "[", "[.", ".]", "[=", "=]", "[:", ":]", "\\", "\\n", "n", "\n", "a", "b", "z", "+", "/", ".", "=", ":", "[.a.]", "[.-.]", "[.].]", "[=a=]", "[===]", "[:digit:]", "[:punct:]", "[:none:]", "\x00", "\xff", "a-z", "+--", "0-9", "é"}
	for range 150000 {
		s := "["
		for range 1 + next(7) {
			s += parts[next(len(parts))]
		}
		if wantReckoned(t, s+"]") {
			right++
		}
	}
	if right < 10000 || right > 140000 {
		t.Errorf("%d texts were right", right)
	}
}

func TestLongTexts(t *testing.T) {
	const many = 200000
	for _, s := range []string{"[", "[a", "-", "[.", "[=", "[:", "[.a.]", "[=a=]", "[:digit:]", "a-", "a-b", "\\", "\\n", "^", "\xff", "[:a", "[.a", "+--"} {
		wantNone(t, "["+strings.Repeat(s, many))
	}
	for s, want := range map[string]truths{"a": of("a"), "a-b": of("ab"), "[.].]": of("]"), "[=]=]": of("]"), "[:digit:]": of("0123456789"), "\\n": of("\n"), "[": of("[")} {
		long := "[" + strings.Repeat(s, many) + "]"
		if set, n, e := bracket.Parse("x"+long+"x", 1); e != api.OK || n != 1+len(long) || set != want.set() {
			t.Errorf("%q many times: %x, %d, %v", s, set, n, e)
		}
	}
}

// P7.2, Print

// wantPrinted sees that a set is printed as the chapter asks.
func wantPrinted(t *testing.T, l truths) {
	t.Helper()
	p := bracket.Print(l.set())
	set, n, e := bracket.Parse(p, 0)
	if e != api.OK || n != len(p) || set != l.set() {
		t.Fatalf("%x is printed as %q: %x, %d, %v", l.set(), p, set, n, e)
	}
	if len(p) > maxPrinted {
		t.Fatalf("%x is printed as %q: %d bytes", l.set(), p, len(p))
	}
	// The other reckoning must read it too, so that two equal faults don't hide one another.
	if want, n, ok := reckoned(p); want != l || n != len(p) || !ok {
		t.Fatalf("%x is printed as %q, which isn't that", l.set(), p)
	}
}

func TestPrintedSets(t *testing.T) {
	for _, l := range someSets() {
		wantPrinted(t, l)
	}
}

func TestPrintedPairs(t *testing.T) {
	for a := range 256 {
		for b := range a {
			l := of(string([]byte{byte(a), byte(b)}))
			wantPrinted(t, l)
			wantPrinted(t, l.not())
		}
	}
}

func TestPrintedRanges(t *testing.T) {
	for from := range 256 {
		for to := from; to < 256; to++ {
			wantPrinted(t, span(byte(from), byte(to)))
		}
	}
}

// All sets of the signs that mean something in brackets, with and without what stands beside them.
func TestPrintedSetsOfHardSigns(t *testing.T) {
	const hard = "[]^-\\\n.=:n"
	for chosen := range 1 << len(hard) {
		var l truths
		for i := range len(hard) {
			l[hard[i]] = chosen>>i&1 == 1
		}
		wantPrinted(t, l)
		wantPrinted(t, plus(l, of("a")))
		wantPrinted(t, plus(l, of("\x00\xff")))
		wantPrinted(t, plus(l, span('A', 'Z')))
		wantPrinted(t, l.not())
	}
}

func TestNoBytesArePrintedAsAComplement(t *testing.T) {
	p := bracket.Print(bracket.Set{})
	if !strings.HasPrefix(p, "[^") {
		t.Errorf("%q", p)
	}
	wantPrinted(t, truths{})
}

// A printed set ends where it ends, whatever stands behind it.
func TestPrintedSetsWithMoreBehind(t *testing.T) {
	for _, l := range someSets()[:800] {
		p := bracket.Print(l.set())
		for _, behind := range []string{"]", "-z]", "a]", ".]", ":]", "\n"} {
			if set, n, e := bracket.Parse("["+p+behind, 1); e != api.OK || n != 1+len(p) || set != l.set() {
				t.Fatalf("%q with %q behind it: %x, %d, %v", p, behind, set, n, e)
			}
		}
	}
}

// P7.3

func TestWhatWasPrintedIsParsed(t *testing.T) {
	for s := range expressions() {
		set, _, e := bracket.Parse(s, 0)
		if e != api.OK {
			t.Fatalf("%q: %v", s, e)
		}
		p := bracket.Print(set)
		again, n, e := bracket.Parse(p, 0)
		if e != api.OK || n != len(p) || again != set {
			t.Errorf("%q is printed as %q: %x, %d, %v", s, p, again, n, e)
		}
	}
	for name := range classes() {
		set, _ := bracket.Class(name)
		p := bracket.Print(set)
		if again, n, e := bracket.Parse(p, 0); e != api.OK || n != len(p) || again != set {
			t.Errorf("%q is printed as %q: %x, %d, %v", name, p, again, n, e)
		}
	}
}

// R1 and R2

func TestAnythingAtAll(t *testing.T) {
	next := chosen(99)
	for range 20000 {
		b := make([]byte, next(12))
		for i := range b {
			b[i] = byte(next(256))
		}
		s := "[" + string(b)
		if next(2) == 0 {
			s += "]"
		}
		wantReckoned(t, s)
		for at := -1; at <= len(s)+1; at++ {
			set, n, e := bracket.Parse(s, at)
			again := fmt.Sprint(bracket.Parse(s, at))
			if fmt.Sprint(set, n, e) != again {
				t.Fatalf("%q at %d: %x, %d, %v, and then %v", s, at, set, n, e, again)
			}
			if stands := at >= 0 && at < len(s) && s[at] == '['; stands == (e == api.ErrArg) {
				t.Fatalf("%q at %d: %v", s, at, e)
			}
		}
	}
}
