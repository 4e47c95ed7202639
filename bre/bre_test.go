package bre_test

import (
	"regexp"
	"runtime"
	"slices"
	"strconv"
	"strings"
	"testing"

	"redactor/api"
	"redactor/bracket"
	"redactor/bre"
	"redactor/tree"
)

func lit(c byte) tree.Node { return tree.Node{Kind: tree.Lit, C: c} }

func anyByte() tree.Node { return tree.Node{Kind: tree.Any} }

func in(bytes string) tree.Node {
	var s bracket.Set
	for i := range len(bytes) {
		s = s.With(bytes[i], bytes[i])
	}
	return tree.Node{Kind: tree.In, Set: s}
}

func outOf(bytes string) tree.Node { return tree.Node{Kind: tree.In, Set: in(bytes).Set.Not()} }

func begin() tree.Node { return tree.Node{Kind: tree.Begin} }

func end() tree.Node { return tree.Node{Kind: tree.End} }

func group(n int, l ...tree.Node) tree.Node { return tree.Node{Kind: tree.Group, N: n, L: l} }

func back(n int) tree.Node { return tree.Node{Kind: tree.Back, N: n} }

func seq(l ...tree.Node) tree.Node { return tree.Node{Kind: tree.Seq, L: l} }

func repeat(from, to int, l ...tree.Node) tree.Node {
	return tree.Node{Kind: tree.Repeat, Min: from, Max: to, L: l}
}

func star(n tree.Node) tree.Node { return repeat(0, -1, n) }

// lits are the bytes of a text, one behind the other.
func lits(text string) tree.Node {
	var l []tree.Node
	for i := range len(text) {
		l = append(l, lit(text[i]))
	}
	return seq(l...)
}

// same tells whether two trees are alike, without the package tree's own way.
func same(a, b tree.Node) bool {
	parts := slices.EqualFunc(a.L, b.L, same)
	return parts && a.Kind == b.Kind && a.C == b.C && a.Set == b.Set && a.N == b.N && a.Min == b.Min && a.Max == b.Max
}

// chosen makes numbers by a plain rule, so that they are the same each time.
func chosen(seed uint64) func(below int) int {
	return func(below int) int {
		seed = seed*6364136223846793005 + 1442695040888963407
		return int(seed >> 33 % uint64(below))
	}
}

// wantTree sees that s is read as a tree.
func wantTree(t *testing.T, s string, want tree.Node) {
	t.Helper()
	n, at, e := bre.Parse(s)
	if e != api.OK || at != 0 || !same(n, want) {
		t.Errorf("%.80q: %+v, %d, %v, want %+v", s, n, at, e, want)
	}
	if e == api.OK && !tree.Formed(n) {
		t.Errorf("%.80q: %+v isn't formed", s, n)
	}
}

// wantWrong sees that s is refused at a place, with nothing beside it.
func wantWrong(t *testing.T, s string, place int) {
	t.Helper()
	n, at, e := bre.Parse(s)
	if e != api.ErrPattern || at != place || !same(n, tree.Node{}) {
		t.Errorf("%.80q: %+v, %d, %v, want ErrPattern, %d", s, n, at, e, place)
	}
}

// P9.1, what is right

func TestBytesThatAreThemselves(t *testing.T) {
	const special = "\\.[*^$\n"
	for c := range 256 {
		b := string([]byte{byte(c)})
		if strings.Contains(special, b) {
			continue
		}
		wantTree(t, b, lit(byte(c)))
		wantTree(t, "x"+b+"y", lits("x"+b+"y"))
		wantTree(t, b+"*", star(lit(byte(c))))
		wantTree(t, `\(`+b+`\)`, group(1, lit(byte(c))))
	}
}

func TestPairs(t *testing.T) {
	const themselves = `.[]*^$/\&-`
	for c := range 256 {
		pair := string([]byte{'\\', byte(c)})
		switch b := byte(c); {
		case strings.IndexByte(themselves, b) >= 0:
			wantTree(t, pair, lit(b))
			wantTree(t, "x"+pair+"*", seq(lit('x'), star(lit(b))))
			wantTree(t, pair+"*", star(lit(b)))
			wantTree(t, `\(`+pair+`*\)`, group(1, star(lit(b))))
		case b == 'n':
			wantTree(t, pair, lit('\n'))
			wantTree(t, "x"+pair+`\{2\}n`, seq(lit('x'), repeat(2, 2, lit('\n')), lit('n')))
		case b >= '1' && b <= '9':
			// A reference to a group that isn't there is refused only when all is read.
			wantWrong(t, pair, 2)
			wantWrong(t, pair+"ab", 4)
			wantWrong(t, pair+"ab**", 5)
		case b == '(':
			wantTree(t, pair+`\)`, group(1, seq()))
		case b == ')':
			wantTree(t, `\(c`+pair, group(1, lit('c')))
			wantWrong(t, "x"+pair+"y", 1)
		default:
			wantWrong(t, pair, 0)
			wantWrong(t, "x"+pair+"y", 1)
			wantWrong(t, `ab\(c`+pair, 5)
		}
	}
}

func TestAtomsOneBehindTheOther(t *testing.T) {
	a, b := lit('a'), lit('b')
	for s, want := range map[string]tree.Node{
		"": seq(), "a": a, "ab": seq(a, b), "aa": seq(a, a), ".": anyByte(), "..": seq(anyByte(), anyByte()), "a.b": seq(a, anyByte(), b),
		"[ab]": in("ab"), "[a]": in("a"), "a[^a-c]b": seq(a, outOf("abc"), b), "[]a]": in("]a"), "[[:digit:]x]": in("0123456789x"), "[[.].]]]": seq(in("]"), lit(']')), "[a-]b": seq(in("a-"), b), `[\n]`: in("\n"), `[\]`: in(`\`), `[\]]`: seq(in(`\`), lit(']')), "[*]": in("*"), `[\(]a`: seq(in(`\(`), a), "[$]": in("$"), "[^^]": outOf("^"), `[\{1\}]`: in(`\{1}`),
		"+?(|){}": lits("+?(|){}"), "]": lit(']'), "a+b?(c)|d{1}": lits("a+b?(c)|d{1}"), "\x00\xff": lits("\x00\xff"), "é": lits("é"),
		`\\n`: lits(`\n`), `\\\n`: lits("\\\n"), `\\(a\\)`: lits(`\(a\)`), `\\\\`: lits(`\\`), `\.a\.`: lits(".a."), `\[a]`: lits("[a]"),
	} {
		wantTree(t, s, want)
	}
}

func TestRepeats(t *testing.T) {
	a, b := lit('a'), lit('b')
	for s, want := range map[string]tree.Node{
		"a*": star(a), "a*b": seq(star(a), b), "ab*": seq(a, star(b)), "a*b*": seq(star(a), star(b)), ".*": star(anyByte()), "[ab]*": star(in("ab")), "]*": star(lit(']')),
		`a\{2\}`: repeat(2, 2, a), `a\{2,\}`: repeat(2, -1, a), `a\{2,3\}`: repeat(2, 3, a), `a\{2,2\}`: repeat(2, 2, a), `a\{0\}`: repeat(0, 0, a), `a\{0,\}`: repeat(0, -1, a), `a\{0,0\}`: repeat(0, 0, a), `a\{0,1\}`: repeat(0, 1, a),
		`a\{255\}`: repeat(255, 255, a), `a\{255,\}`: repeat(255, -1, a), `a\{0,255\}`: repeat(0, 255, a), `a\{255,255\}`: repeat(255, 255, a), `a\{254,255\}`: repeat(254, 255, a), `a\{9,10\}`: repeat(9, 10, a),
		`a\{007\}`: repeat(7, 7, a), `a\{000,0000255\}`: repeat(0, 255, a), `a\{` + strings.Repeat("0", 5000) + `12,\}`: repeat(12, -1, a),
		`\(a\)*`: star(group(1, a)), `\(ab\)\{3\}b`: seq(repeat(3, 3, group(1, seq(a, b))), b), `\(\)*`: star(group(1, seq())), `\(a*\)*`: star(group(1, star(a))), `\(a\{1,2\}\)\{3,4\}`: repeat(3, 4, group(1, repeat(1, 2, a))),
		`\(a\)\1*`: seq(group(1, a), star(back(1))), `\(a\)*\1\{2\}`: seq(star(group(1, a)), repeat(2, 2, back(1))), `\n*`: star(lit('\n')), `.\{3,\}`: repeat(3, -1, anyByte()), `[a]\{4\}`: repeat(4, 4, in("a")),
		`a\{2\}b\{3\}`: seq(repeat(2, 2, a), repeat(3, 3, b)), "a+*": seq(a, star(lit('+'))), "a{2}*": seq(lit('a'), lit('{'), lit('2'), star(lit('}'))), `a\{1\}{2}`: seq(repeat(1, 1, a), lit('{'), lit('2'), lit('}')),
	} {
		wantTree(t, s, want)
	}
}

func TestStarThatIsItself(t *testing.T) {
	a, s := lit('a'), lit('*')
	for text, want := range map[string]tree.Node{
		"*": s, "*a": seq(s, a), "**": star(s), `*\{2\}`: repeat(2, 2, s), "*a*": seq(s, star(a)), "**a": seq(star(s), a),
		`\(*\)`: group(1, s), `\(*a\)`: group(1, seq(s, a)), `\(**\)*`: star(group(1, star(s))), `a\(*\)`: seq(a, group(1, s)), `\(\(*\)\)`: group(1, group(2, s)),
		"^*": seq(begin(), s), "^**": seq(begin(), star(s)), "^*a": seq(begin(), s, a), `^*\{3\}`: seq(begin(), repeat(3, 3, s)), `\(^*\)`: group(1, seq(begin(), s)), `\(^**\)`: group(1, seq(begin(), star(s))), "*^*": seq(s, star(lit('^'))),
		"^^*": seq(begin(), star(lit('^'))), "a^*": seq(a, star(lit('^'))), `\^*`: star(lit('^')), "$*": star(lit('$')), `\(\)*`: star(group(1, seq())), `\(a\)*`: star(group(1, a)), "*$": seq(s, end()), "^*$": seq(begin(), s, end()), "[*]*": star(in("*")), `\**`: star(s),
	} {
		wantTree(t, text, want)
	}
}

func TestAnchors(t *testing.T) {
	a, hat, dollar := lit('a'), lit('^'), lit('$')
	for s, want := range map[string]tree.Node{
		"^": begin(), "$": end(), "^$": seq(begin(), end()), "^a$": seq(begin(), a, end()), "^a": seq(begin(), a), "a$": seq(a, end()),
		`\(^a\)`: group(1, seq(begin(), a)), `\(^\)`: group(1, begin()), `\($\)`: group(1, end()), `\(^$\)`: group(1, seq(begin(), end())), `\(a$\)`: group(1, seq(a, end())), `a\(^a\)`: seq(a, group(1, seq(begin(), a))), `\(a$\)a`: seq(group(1, seq(a, end())), a), `^\(^a$\)$`: seq(begin(), group(1, seq(begin(), a, end())), end()), `\(\(^$\)\)`: group(1, group(2, seq(begin(), end()))), `\(^\(^a\)\)`: group(1, seq(begin(), group(2, seq(begin(), a)))), `\(\(a$\)$\)$`: seq(group(1, seq(group(2, seq(a, end())), end())), end()),
		"^^": seq(begin(), hat), "a^": seq(a, hat), "a^b": lits("a^b"), "^^^": seq(begin(), hat, hat), "a^$": seq(a, hat, end()), `\(^^\)`: group(1, seq(begin(), hat)), `\(a^\)`: group(1, seq(a, hat)), `\(a\)^`: seq(group(1, a), hat), "a*^": seq(star(a), hat), `\n^`: seq(lit('\n'), hat), `\\(^`: lits(`\(^`), "(^a)": lits("(^a)"),
		"$$": seq(dollar, end()), "$a": seq(dollar, a), "a$b": lits("a$b"), "$$$": seq(dollar, dollar, end()), "^$$": seq(begin(), dollar, end()), "$^": seq(dollar, hat), `\($$\)`: group(1, seq(dollar, end())), `\($a\)`: group(1, seq(dollar, a)), `$\(a\)`: seq(dollar, group(1, a)), `a$\\)`: lits(`a$\)`), "(a$)": lits("(a$)"), `$\$`: seq(dollar, dollar), `a$\n`: lits("a$\n"), `\(a$\n\)`: group(1, lits("a$\n")),
		`\^`: hat, `\^a`: seq(hat, a), `\(\^a\)`: group(1, seq(hat, a)), `\$`: dollar, `a\$`: seq(a, dollar), `\(a\$\)`: group(1, seq(a, dollar)), "[^$]$": seq(outOf("$"), end()), `a*$`: seq(star(a), end()), `$\{2\}`: repeat(2, 2, dollar), `a$*`: seq(a, star(dollar)), `^\($*\)$`: seq(begin(), group(1, star(dollar)), end()), `^^\{2\}`: seq(begin(), repeat(2, 2, hat)),
	} {
		wantTree(t, s, want)
	}
}

func TestGroupsAndReferences(t *testing.T) {
	a, b := lit('a'), lit('b')
	for s, want := range map[string]tree.Node{
		`\(\)`: group(1, seq()), `\(a\)`: group(1, a), `\(ab\)`: group(1, seq(a, b)), `\(a\)\(b\)`: seq(group(1, a), group(2, b)), `\(\(a\)b\)`: group(1, seq(group(2, a), b)), `\(a\(b\)\)`: group(1, seq(a, group(2, b))), `\(\(a\)\(b\)\)\(a\)`: seq(group(1, seq(group(2, a), group(3, b))), group(4, a)), `a\(a\(\(b\)*\)\)b`: seq(a, group(1, seq(a, group(2, star(group(3, b))))), b),
		`\(a\)\1`: seq(group(1, a), back(1)), `\(a\)\(b\)\2\1`: seq(group(1, a), group(2, b), back(2), back(1)), `\(\(a\)\2\)\1`: seq(group(1, seq(group(2, a), back(2))), back(1)), `\(a\)\(\1\)`: seq(group(1, a), group(2, back(1))), `\(a\)\11`: seq(group(1, a), back(1), lit('1')), `\(a\)\10`: seq(group(1, a), back(1), lit('0')), `\(a\)b\1\1`: seq(group(1, a), b, back(1), back(1)), `\(^a\)\1$`: seq(group(1, seq(begin(), a)), back(1), end()),
	} {
		wantTree(t, s, want)
	}
	var nine, backs []tree.Node
	text, told := "", ""
	for i := range api.MaxGroups {
		nine = append(nine, group(i+1, lit(byte('a'+i))))
		backs = append(backs, back(i+1))
		text += `\(` + string(rune('a'+i)) + `\)`
		told += `\` + strconv.Itoa(i+1)
	}
	wantTree(t, text+told, seq(append(nine, backs...)...))
}

// P9.1, what is wrong

func TestPairsThatAreWrong(t *testing.T) {
	for s, place := range map[string]int{
		`\`: 0, `a\`: 1, `\\\`: 2, `^\`: 1, `a*\`: 2, `\(\`: 2, `\(a\`: 3, `[a]\`: 3, "\\\n": 0, "a\\\n": 1, `\\\q`: 2, `a\+`: 1, `a\?`: 1, `a\|b`: 1, `\0`: 0, `\(a\)\0`: 5, `\}`: 0, `a\}`: 1, `a\{1\}\}`: 6, `\N`: 0, `\]\[\x`: 4, `\é`: 0, "\\\x00": 0,
	} {
		wantWrong(t, s, place)
	}
}

func TestLineFeeds(t *testing.T) {
	for s, place := range map[string]int{
		"\n": 0, "a\n": 1, "a\nb": 1, "^\n": 1, "$\n": 1, "a*\n": 2, "\\(\n\\)": 2, "\\(a\\)\n": 5, "a\\{1\\}\n": 6, "\\n\n": 2, "\\\\\n": 2, "[a]\n": 3, "\n\n": 0, "\n**": 0, "a\n\\q": 1,
		"[a\nb]": 0, "x[\n]": 1, "a\\{1\n\\}": 1, "a\\{\n1\\}": 1,
	} {
		wantWrong(t, s, place)
	}
}

func TestBracketExpressionsThatAreNone(t *testing.T) {
	for s, place := range map[string]int{
		"[": 0, "[]": 0, "[^]": 0, "[a": 0, "a[": 1, "a[b": 1, "b[b-a]": 1, "[[:none:]]": 0, "a*[a-": 2, `\([a\)`: 2, `\(a\)[`: 5, "[a][": 3, "^[": 1, "[[.a]": 0, "[a-z-9-]x[]x": 9, "[a]]*[": 5, `\[[`: 2, "[a]*[b\n]": 4, "[z-a]*": 0, "[a**": 0, `[a\`: 0,
	} {
		wantWrong(t, s, place)
	}
}

func TestRepeatsThatAreNone(t *testing.T) {
	for _, inner := range []string{
		"", ",", ",2", ",,", "2,1", "1,0", "255,254", "256", "256,", "256,256", "0,256", "1,256", "1000", "1,1000", "a", "1a", "a1", "1,a", "1,2a", "1,2,", "1,2,3", "1,,2", " 1", "1 ", "1, 2", "1 ,2", "+1", "-1", "1,-1", "1,+2", "0x1", "1.0", "1e1", "1_0", "\n", "1\n", "1,\n", "é", "١", "\x00", `\1`, `1\,2`, "1}", "1\\", "{1", "1,2}",
		"18446744073709551616", "18446744073709551617", "4294967297", "1,18446744073709551618", "18446744073709551616,", "2560000000000000000000000000", strings.Repeat("9", 10000), "1," + strings.Repeat("9", 10000), strings.Repeat("0", 10000) + "256",
	} {
		text := `a\{` + inner + `\}`
		wantWrong(t, text, 1)
		wantWrong(t, "b"+text+"c", 2)
		wantWrong(t, `\(`+text+`\)`, 3)
		wantWrong(t, `a*b`+text[1:]+`\q`, 3)
	}
	for s, place := range map[string]int{
		`a\{`: 1, `a\{1`: 1, `a\{1,`: 1, `a\{1,2`: 1, `a\{1\`: 1, `a\{1,2\`: 1, `a\{1}`: 1, `a\{1,2}`: 1, `a{1\}`: 3, `\(a\)\{`: 5, `\(a\)\{1\)`: 5, `[a]\{2`: 3, `.\{1b\{2\}`: 1, `\(a\{1\)\}`: 3, `\n\{`: 2, `a\{1\{2\}`: 1,
	} {
		wantWrong(t, s, place)
	}
}

// Digits alone, and one comma, may stand in a repeat.
func TestEachByteInARepeat(t *testing.T) {
	a := lit('a')
	for c := range 256 {
		b := string([]byte{byte(c)})
		n := c - '0'
		switch {
		case n >= 0 && n <= 9:
			wantTree(t, `a\{`+b+`\}`, repeat(n, n, a))
			wantTree(t, `a\{1`+b+`\}`, repeat(10+n, 10+n, a))
			wantTree(t, `a\{1,2`+b+`\}`, repeat(1, 20+n, a))
			wantTree(t, `a\{0,`+b+`\}`, repeat(0, n, a))
			continue
		case b == ",":
			wantTree(t, `a\{1`+b+`\}`, repeat(1, -1, a))
		default:
			wantWrong(t, `a\{1`+b+`\}`, 1)
		}
		wantWrong(t, `a\{`+b+`\}`, 1)
		wantWrong(t, `a\{`+b+`1\}`, 1)
		wantWrong(t, `a\{1,2`+b+`\}`, 1)
		wantWrong(t, `a\{0,`+b+`\}`, 1)
	}
}

func TestRepeatsWhereNoneStands(t *testing.T) {
	for s, place := range map[string]int{
		"a**": 2, "a***": 2, "a*b**": 4, "***": 2, "^***": 3, `\(***\)`: 4, `\(a**\)`: 4, `\(a\)**`: 6, "[a]**": 4, "$**": 2, `\n**`: 3, ".**a": 2, `\(a\)\1**`: 8,
		`a\{1\}*`: 6, `a*\{1\}`: 2, `a\{1\}\{2\}`: 6, `a*\{`: 2, `a*\{x\}`: 2, `a\{1\}\{`: 6, `a\{1\}**`: 6, `**\{2\}`: 2, `*\{2\}*`: 6,
		`\{1\}`: 0, `\{`: 0, `\(\{1\}\)`: 2, `\(\{`: 2, `^\{2\}`: 1, `^\{`: 1, `\(^\{2\}a\)`: 3, `^*\{1\}*`: 7, `a\(\{1\}\)`: 3,
	} {
		wantWrong(t, s, place)
	}
}

func TestGroupsThatAreNotClosedOrNotOpened(t *testing.T) {
	for s, place := range map[string]int{
		`\(`: 2, `\(a`: 3, `\(a*`: 4, `\(^`: 3, `\(a$`: 4, `\(\(a\)`: 7, `\(\(`: 4, `a\(b\(c`: 7, `\(a)`: 4, `\(a\\)`: 6, `\([\)]`: 6, `\(a\)\(`: 7, `\(\1`: 4,
		`\)`: 0, `a\)`: 1, `^\)`: 1, `$\)`: 1, `a$\)`: 2, `a*\)`: 2, `\(a\)\)`: 5, `\(a\)\)*`: 5, `(a\)`: 2, `a\)\(`: 1, `\(\(a\)\)\)b`: 9, `\)\(a\)`: 0, `\\(a\)`: 4,
	} {
		wantWrong(t, s, place)
	}
}

// The tenth \( is one too many, wherever it stands; each \( ahead of it counts.
func TestTooManyGroups(t *testing.T) {
	wantWrong(t, strings.Repeat(`\(a\)`, 10), 45)
	wantWrong(t, strings.Repeat(`\(a\)`, 9)+`\(`, 45)
	wantWrong(t, strings.Repeat(`\(a\)`, 9)+`b\(c\)**`, 46)
	wantWrong(t, strings.Repeat(`\(`, 10), 18)
	wantWrong(t, strings.Repeat(`\(`, 9), 18)
	wantWrong(t, strings.Repeat(`\(`, 1000000), 18)
	wantWrong(t, strings.Repeat(`\(`, 10)+"a"+strings.Repeat(`\)`, 10), 18)
	wantWrong(t, `\(\(\(a\)\)\)`+strings.Repeat(`\(\)`, 6)+`\(a\)`, 37)
	wantTree(t, strings.Repeat(`\(`, 9)+"a"+strings.Repeat(`\)`, 9), nested(9, lit('a')))
	wantTree(t, strings.Repeat(`\\(`, 10), lits(strings.Repeat(`\(`, 10)))
}

// nested is n with so many groups around it, numbered from the outer one on.
func nested(groups int, n tree.Node) tree.Node {
	for i := groups; i >= 1; i-- {
		n = group(i, n)
	}
	return n
}

func TestReferencesToGroupsThatDidNotEnd(t *testing.T) {
	for _, s := range []string{
		`\1`, `a\1b`, `\1\(a\)`, `\(a\)\2`, `\(a\1\)`, `\(\1\)`, `\(a\(b\)\1\)`, `\(\(a\)\1\)\2`, `\(a\)\(b\2\)`, `\(a\)\(b\)\3`, `\9`, `\(a\)\9`, `\1*`, `\(a\1*\)`, strings.Repeat(`\(a\)`, 8) + `\9`,
	} {
		wantWrong(t, s, len(s))
	}
	// What can't be read comes ahead of it.
	for s, place := range map[string]int{`\1**`: 3, `\1\q`: 2, `\(\1`: 4, "\\1\n": 2, `\1\)`: 2} {
		wantWrong(t, s, place)
	}
}

func TestTooManyNodes(t *testing.T) {
	as := func(n int) string { return strings.Repeat("a", n) }
	// All of them stand in one Seq, which is a node too.
	wantTree(t, as(199), lits(as(199)))
	wantWrong(t, as(200), 200)
	wantWrong(t, as(201), 201)
	wantWrong(t, as(202), 202)
	wantTree(t, "^"+as(197)+"$", seq(append(append([]tree.Node{begin()}, lits(as(197)).L...), end())...))
	wantWrong(t, "^"+as(198)+"$", 200)
	wantTree(t, `\(`+as(198)+`\)`, group(1, lits(as(198))))
	wantWrong(t, `\(`+as(199)+`\)`, 203)
	wantTree(t, strings.Repeat("a*", 99)+"a", seq(append(slices.Repeat([]tree.Node{star(lit('a'))}, 99), lit('a'))...))
	wantWrong(t, strings.Repeat("a*", 100), 200)
	wantWrong(t, `\(`+as(150)+`\)\(`+as(150)+`\)`, 308)
	wantWrong(t, `\(`+as(150)+`\)`+as(150), 304)
	for _, n := range []int{199, 200, 201, 202, 400, 1000} {
		wantWrong(t, as(n)+"**", n+1)
		wantWrong(t, as(n)+"\n", n)
		wantWrong(t, as(n)+`\q`, n)
		wantWrong(t, `\(`+as(n), n+2)
		wantWrong(t, as(n)+`\)`, n)
		wantWrong(t, `\(`+as(n)+`\)\)`, n+4)
	}
}

func TestTooDeep(t *testing.T) {
	open, shut := func(n int) string { return strings.Repeat(`\(`, n) }, func(n int) string { return strings.Repeat(`\)`, n) }
	wantTree(t, open(8)+"a*"+shut(8), nested(8, star(lit('a'))))
	wantTree(t, open(8)+"ab"+shut(8), nested(8, lits("ab")))
	wantTree(t, open(7)+"ab*"+shut(7), nested(7, seq(lit('a'), star(lit('b')))))
	wantTree(t, open(9)+shut(9), nested(9, seq()))
	for _, s := range []string{open(9) + "a*" + shut(9), open(9) + "ab" + shut(9), open(8) + "ab*" + shut(8), "b" + open(9) + "a" + shut(9), open(9) + "a" + shut(9) + "*"} {
		wantWrong(t, s, len(s))
		wantWrong(t, s+"b**", len(s)+2)
	}
}

// The first place that is wrong is told, whatever stands behind it.
func TestTheFirstFault(t *testing.T) {
	faults := []string{"a**", "\n", `\q`, "[", `a\{`, `\{`, "a*\\{1\\}", `\)`}
	where := []int{2, 0, 0, 0, 1, 0, 2, 0}
	for i, first := range faults {
		for _, second := range append(faults, "", "a", `\1`, `\(`, "]", strings.Repeat("a", 300)) {
			// A [ is right if a ] stands behind it, and a \{ by itself is a repeat of what stands ahead of it.
			if first == "[" && strings.Contains(second, "]") {
				continue
			}
			wantWrong(t, "x*"+first+second, 2+where[i])
		}
	}
}

// P9.1, by a second reckoning

// interval is a repeat in \{ and \}, if its numbers are right.
var interval = regexp.MustCompile(`^\\\{0*([0-9]{1,3})(,(?:0*([0-9]{1,3}))?)?\\\}`)

// token is a part of a pattern that belongs together.
type token struct {
	text  string
	at    int
	wrong bool
	role  byte // o: \(, c: \), r: a repeat, ^: an anchor, a: an atom
	node  tree.Node
}

// number is digits as a number, 0 if there are none.
func number(digits string) int {
	n, _ := strconv.Atoi(digits)
	return n
}

// cutInterval is the \{ that s begins with, as a repeat.
func cutInterval(s string) token {
	found := interval.FindStringSubmatch(s)
	if found == nil {
		return token{text: `\{`, wrong: true}
	}
	n := repeat(number(found[1]), number(found[3]))
	switch found[2] {
	case "":
		n.Max = n.Min
	case ",":
		n.Max = -1
	}
	right := n.Min <= 255 && n.Max <= 255 && (n.Max == -1 || n.Min <= n.Max)
	return token{text: found[0], wrong: !right, role: 'r', node: n}
}

// cut is the token that s begins with, without regard to what stands ahead of it or behind it.
func cut(s string) token {
	switch {
	case strings.HasPrefix(s, `\{`):
		return cutInterval(s)
	case strings.HasPrefix(s, `\(`):
		return token{text: `\(`, role: 'o'}
	case strings.HasPrefix(s, `\)`):
		return token{text: `\)`, role: 'c'}
	case len(s) > 1 && s[0] == '\\' && s[1] >= '1' && s[1] <= '9':
		return token{text: s[:2], role: 'a', node: back(int(s[1] - '0'))}
	case strings.HasPrefix(s, `\n`):
		return token{text: `\n`, role: 'a', node: lit('\n')}
	case len(s) > 1 && s[0] == '\\':
		return token{text: s[:2], wrong: !strings.Contains(`.[]*^$/\&-`, s[1:2]), role: 'a', node: lit(s[1])}
	case s[0] == '[':
		set, n, e := bracket.Parse(s, 0)
		return token{text: s[:max(n, 1)], wrong: e != api.OK, role: 'a', node: tree.Node{Kind: tree.In, Set: set}}
	case s[0] == '.':
		return token{text: ".", role: 'a', node: anyByte()}
	}
	return token{text: s[:1], wrong: s[0] == '\n' || s[0] == '\\', role: 'a', node: lit(s[0])}
}

// tokens are those of s up to the first one that is wrong by itself; the roles of * ^ and $ are told by their neighbours.
func tokens(s string) []token {
	var list []token
	for at := 0; at < len(s); {
		c := cut(s[at:])
		c.at = at
		at += len(c.text)
		ahead := byte('o')
		if len(list) > 0 {
			ahead = list[len(list)-1].role
		}
		switch rest := s[at:]; {
		case c.text == "^" && ahead == 'o':
			c.role, c.node = '^', begin()
		case c.text == "$" && (rest == "" || strings.HasPrefix(rest, `\)`)):
			c.node = end()
		case c.text == "*" && (ahead == 'a' || ahead == 'c' || ahead == 'r'):
			c.role, c.node = 'r', star(tree.Node{})
		}
		// A repeat repeats an atom or a group.
		if c.role == 'r' && ahead != 'a' && ahead != 'c' {
			c.wrong = true
		}
		list = append(list, c)
		if c.wrong {
			break
		}
	}
	return list
}

// joined is nodes one behind the other.
func joined(l []tree.Node) tree.Node {
	if len(l) == 1 {
		return l[0]
	}
	return seq(l...)
}

// reckoned is what the chapter makes of s: the tree, or the place of what is wrong.
func reckoned(s string) (tree.Node, int, bool) {
	stack := [][]tree.Node{nil}
	var numbers []int
	groups := 0
	for _, c := range tokens(s) {
		if c.wrong || c.role == 'c' && len(stack) == 1 || c.role == 'o' && groups == 9 {
			return tree.Node{}, c.at, false
		}
		top := len(stack) - 1
		last := len(stack[top]) - 1
		switch c.role {
		case 'o':
			groups++
			numbers = append(numbers, groups)
			stack = append(stack, nil)
		case 'c':
			n := group(numbers[len(numbers)-1], joined(stack[top]))
			numbers = numbers[:len(numbers)-1]
			stack = stack[:top]
			stack[top-1] = append(stack[top-1], n)
		case 'r':
			stack[top][last] = repeat(c.node.Min, c.node.Max, stack[top][last])
		default:
			stack[top] = append(stack[top], c.node)
		}
	}
	n := joined(stack[0])
	if len(stack) > 1 || !tree.Formed(n) {
		return tree.Node{}, len(s), false
	}
	return n, 0, true
}

// wantReckoned sees that s is read as it is reckoned.
func wantReckoned(t *testing.T, s string) (right bool) {
	t.Helper()
	want, place, ok := reckoned(s)
	n, at, e := bre.Parse(s)
	if ok != (e == api.OK) || !ok && e != api.ErrPattern || at != place || !same(n, want) {
		t.Fatalf("%q: %+v, %d, %v, want %+v, %d, %v", s, n, at, e, want, place, ok)
	}
	if ok && !tree.Formed(n) {
		t.Fatalf("%q: %+v isn't formed", s, n)
	}
	return ok
}

// allTexts gives all texts of so many of these parts to do.
func allTexts(parts []string, size int, do func(s string)) {
	if size == 0 {
		do("")
		return
	}
	allTexts(parts, size-1, func(s string) {
		for _, part := range parts {
			do(s + part)
		}
	})
}

func TestAllShortTexts(t *testing.T) {
	right := 0
	const signs = "\\()[]{}*^$.,a19n\n0-&"
	for _, c := range []struct {
		ahead, signs string
		size         int
	}{
		{"", signs, 1}, {"", signs, 2}, {"", signs, 3}, {"", "\\()[]{}*^$.,a1n\n", 4}, {"", "\\()*^$a1", 5}, {"", "\\()*^$", 6}, {"a\\{", "\\{}12,*", 5}, {"\\(", "\\()*^$a", 5},
	} {
		allTexts(strings.Split(c.signs, ""), c.size, func(s string) {
			if wantReckoned(t, c.ahead+s) {
				right++
			}
		})
	}
	if right < 10000 {
		t.Errorf("only %d texts were right", right)
	}
}

func TestAllShortTextsOfParts(t *testing.T) {
	right := 0
	parts := []string{`\(`, `\)`, "*", "^", "$", "a", `\1`, `\{2\}`, "[*]", "\n", `\`}
	for size := range 6 {
		allTexts(parts, size, func(s string) {
			if wantReckoned(t, s) {
				right++
			}
		})
	}
	allTexts([]string{`\(`, `\)`, "*", "^", "$", "a"}, 7, func(s string) {
		if wantReckoned(t, s) {
			right++
		}
	})
	if right < 10000 {
		t.Errorf("only %d texts were right", right)
	}
}

// manyParts are parts of patterns, those that are right often.
func manyParts() []string {
	return []string{
		"a", "b", "a", "b", "*", "*", ".", "^", "$", "+", "?", "|", "{", "}", "(", ")", "]", "\x00", "\xff", "é", "1", ",",
		`\(`, `\(`, `\(`, `\)`, `\)`, `\)`, `\(a\)`, `\1`, `\2`, `\n`, `\.`, `\*`, `\^`, `\$`, `\\`, `\/`, `\&`, `\-`, `\[`, `\]`,
		`\{2\}`, `\{0,\}`, `\{1,255\}`, `\{007\}`, "[ab]", "[^]]", "[[:digit:]]", "[a-c]*", `a\{3\}`, `\(^a$\)`, `\(*\)`,
	}
}

// wrongParts are parts that make most patterns wrong.
func wrongParts() []string {
	return []string{"\n", `\`, `\q`, `\0`, "[", "[^", "[z-a]", `\{`, `\}`, `\{1`, `\{2,1\}`, `\{256\}`, `\{,1\}`, "**", `\9`, `\{1\}\{1\}`}
}

func TestMixedTexts(t *testing.T) {
	next := chosen(2026)
	right := 0
	parts, wrong := manyParts(), wrongParts()
	for range 200000 {
		s := ""
		open := 0
		for range 1 + next(14) {
			part := parts[next(len(parts))]
			if next(40) == 0 {
				part = wrong[next(len(wrong))]
			}
			open += strings.Count(part, `\(`) - strings.Count(part, `\)`)
			s += part
		}
		if next(4) > 0 {
			s += strings.Repeat(`\)`, max(open, 0))
		}
		if wantReckoned(t, s) {
			right++
		}
	}
	if right < 20000 || right > 180000 {
		t.Errorf("%d texts were right", right)
	}
}

// Patterns with so many nodes, levels and groups that some of them aren't formed.
func TestMixedLargeTexts(t *testing.T) {
	next := chosen(5)
	right, unformed := 0, 0
	parts := []string{"a", "b*", ".", `[a-c]`, `\n`, `c\{1,2\}`, `\(ab\)`, `d$`, "^e", `\1`, "fghijk"}
	for range 5000 {
		s := ""
		groups := next(api.MaxGroups + 1)
		for range groups {
			s += strings.Repeat("x", next(2)) + `\(`
		}
		for range next(60) {
			s += parts[next(len(parts))]
		}
		for range groups {
			s += `\)` + strings.Repeat("*", next(2))
		}
		if wantReckoned(t, s) {
			right++
		} else if _, at, _ := bre.Parse(s); at == len(s) {
			unformed++
		}
	}
	if right < 500 || unformed < 500 {
		t.Errorf("%d were right, %d not formed", right, unformed)
	}
}

// What stands ahead of the place of a fault can go on: it is right as soon as its groups are closed, but for its tree.
func TestWhatIsAheadOfAFaultCanGoOn(t *testing.T) {
	next := chosen(11)
	parts := append(manyParts(), wrongParts()...)
	seen := 0
	for range 100000 {
		s := ""
		for range 1 + next(8) {
			s += parts[next(len(parts))]
		}
		_, at, e := bre.Parse(s)
		if e == api.OK || at == len(s) {
			continue
		}
		seen++
		ahead := s[:at]
		open := 0
		for _, c := range tokens(ahead) {
			switch c.role {
			case 'o':
				open++
			case 'c':
				open--
			}
		}
		ahead += strings.Repeat(`\)`, open)
		if _, again, e := bre.Parse(ahead); e != api.OK && again != len(ahead) {
			t.Fatalf("%q is wrong at %d, but %q at %d", s, at, ahead, again)
		}
		// And what stands there can't go on, whatever comes behind all of it, but where that may be its end.
		if s[at] == '[' || s[at:] == `\` || strings.HasPrefix(s[at:], `\{`) {
			continue
		}
		for _, more := range []string{"a", `\)`, "*"} {
			if _, again, e := bre.Parse(s + more); e != api.ErrPattern || again != at {
				t.Fatalf("%q is wrong at %d, with %q behind it %v at %d", s, at, more, e, again)
			}
		}
	}
	if seen < 30000 {
		t.Errorf("only %d were wrong", seen)
	}
}

// P9.2

func TestWhatIsReadIsFormed(t *testing.T) {
	next := chosen(3)
	right := 0
	parts := manyParts()
	for range 100000 {
		s := ""
		for range next(30) {
			s += parts[next(len(parts))]
		}
		n, at, e := bre.Parse(s)
		switch {
		case e == api.OK && (at != 0 || n.Kind == 0 || !tree.Formed(n)):
			t.Fatalf("%q: %+v, %d", s, n, at)
		case e == api.OK:
			right++
		case e != api.ErrPattern || at < 0 || at > len(s) || !same(n, tree.Node{}):
			t.Fatalf("%q: %+v, %d, %v", s, n, at, e)
		}
	}
	if right < 1000 {
		t.Errorf("only %d were right", right)
	}
}

// R1, R2 and R3

func TestAnythingAtAll(t *testing.T) {
	next := chosen(99)
	for range 100000 {
		b := make([]byte, next(20))
		for i := range b {
			b[i] = byte(next(256))
			if next(2) == 0 {
				b[i] = `\\\\()[]{}*^$.a1`[next(15)]
			}
		}
		wantReckoned(t, string(b))
	}
}

func TestLongTexts(t *testing.T) {
	const many = 1 << 20
	for s, place := range map[string]int{
		"a": many, "a*": 2 * many, ".": many, "[a]": 3 * many, `\n`: 2 * many, `\1`: 2 * many, `a\{1\}`: 6 * many, "$": many, "^": many, `\-`: 2 * many,
		"*": 2, `\(`: 18, `\)`: 0, "[": 0, "[a": 0, "[:": 0, `\{`: 0, `a\{`: 1, `a\{1`: 1, `\`: -1, "\n": 0, `\(a\)`: 45, `\q`: 0,
	} {
		// Backslashes by two are backslashes.
		if place < 0 {
			place = many
		}
		wantWrong(t, strings.Repeat(s, many), place)
	}
	wantWrong(t, "a\\{"+strings.Repeat("0", many), 1)
	wantWrong(t, "a\\{"+strings.Repeat("1", many)+`\}`, 1)
	wantWrong(t, strings.Repeat("a", many)+"**", many+1)
	wantTree(t, `a\{`+strings.Repeat("0", many)+`3\}`, repeat(3, 3, lit('a')))
	wantTree(t, "["+strings.Repeat("a", many)+"]", in("a"))
}

// A long pattern is refused without a tree of all of its nodes.
func TestLongTextsTakeLittleRoom(t *testing.T) {
	const many = 1 << 20
	for _, s := range []string{"a", ".", "[a]", `\n`} {
		text := `\(a` + strings.Repeat(s, many) + `\)` + strings.Repeat(s, many)
		var before, after runtime.MemStats
		runtime.ReadMemStats(&before)
		wantWrong(t, text, len(text))
		runtime.ReadMemStats(&after)
		if room := after.TotalAlloc - before.TotalAlloc; room > 1<<22 {
			t.Errorf("%q many times took %d bytes", s, room)
		}
	}
}

// mangle changes all that can be reached from n, the spare room of its lists too.
func mangle(n *tree.Node) {
	l := n.L[:cap(n.L)]
	for i := range l {
		mangle(&l[i])
		l[i] = tree.Node{Kind: 99, C: 99, N: 99}
	}
}

func TestAnswersShareNoMemory(t *testing.T) {
	for _, s := range []string{"", "a", "ab", "a*", "aaa*", `\(a\)`, `\(ab*\)\1`, `^\(a\(b\)*c\)\{2\}$`, `\(\)\(\)`, "[ab]c[de]", strings.Repeat("a", 199)} {
		want, _, e := bre.Parse(s)
		if e != api.OK {
			t.Fatalf("%q: %v", s, e)
		}
		other, _, _ := bre.Parse(s)
		mangle(&other)
		again, at, e := bre.Parse(s)
		if e != api.OK || at != 0 || !same(want, again) {
			t.Errorf("%q: %+v, and then %+v", s, want, again)
		}
	}
}

// No two lists of one answer share memory, spare room too.
func TestListsOfOneAnswerShareNoMemory(t *testing.T) {
	n, _, e := bre.Parse(`a\(b\(cd*\)e\)*f\(g\)\1[h]\{2\}`)
	if e != api.OK {
		t.Fatal(e)
	}
	cells := map[*tree.Node]int{}
	lists := 0
	var walk func(tree.Node)
	walk = func(n tree.Node) {
		lists++
		full := n.L[:cap(n.L)]
		for i := range full {
			cells[&full[i]]++
		}
		for _, part := range n.L {
			walk(part)
		}
	}
	walk(n)
	for _, times := range cells {
		if times > 1 {
			t.Fatalf("%+v shares a cell", n)
		}
	}
	if lists != tree.Count(n) {
		t.Errorf("%d lists of %d nodes", lists, tree.Count(n))
	}
}
