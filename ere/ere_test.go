package ere_test

import (
	"regexp"
	"slices"
	"strconv"
	"strings"
	"testing"

	"redactor/api"
	"redactor/bracket"
	"redactor/ere"
	"redactor/tree"
)

func lit(c byte) tree.Node { return tree.Node{Kind: tree.Lit, C: c} }

func anyByte() tree.Node { return tree.Node{Kind: tree.Any} }

func in(bytes string) tree.Node {
	var s bracket.Set
	for i := range len(bytes) {
		s = s.With(bytes[i], bytes[i])
	}
	return tree.Node{Kind: tree.In, Set: s}
}

func outOf(bytes string) tree.Node { return tree.Node{Kind: tree.In, Set: in(bytes).Set.Not()} }

func begin() tree.Node { return tree.Node{Kind: tree.Begin} }

func end() tree.Node { return tree.Node{Kind: tree.End} }

func group(n int, l ...tree.Node) tree.Node { return tree.Node{Kind: tree.Group, N: n, L: l} }

func back(n int) tree.Node { return tree.Node{Kind: tree.Back, N: n} }

func seq(l ...tree.Node) tree.Node { return tree.Node{Kind: tree.Seq, L: l} }

func alt(l ...tree.Node) tree.Node { return tree.Node{Kind: tree.Alt, L: l} }

func repeat(from, to int, l ...tree.Node) tree.Node {
	return tree.Node{Kind: tree.Repeat, Min: from, Max: to, L: l}
}

func star(n tree.Node) tree.Node { return repeat(0, -1, n) }

func plus(n tree.Node) tree.Node { return repeat(1, -1, n) }

func maybe(n tree.Node) tree.Node { return repeat(0, 1, n) }

// listed are the bytes of a text as nodes.
func listed(text string) []tree.Node {
	var l []tree.Node
	for i := range len(text) {
		l = append(l, lit(text[i]))
	}
	return l
}

// lits are the bytes of a text, one behind the other.
func lits(text string) tree.Node { return seq(listed(text)...) }

// same tells whether two trees are alike, without the package tree's own way.
func same(a, b tree.Node) bool {
	parts := slices.EqualFunc(a.L, b.L, same)
	return parts && a.Kind == b.Kind && a.C == b.C && a.Set == b.Set && a.N == b.N && a.Min == b.Min && a.Max == b.Max
}

// chosen makes numbers by a plain rule, so that they are the same each time.
func chosen(seed uint64) func(below int) int {
	return func(below int) int {
		seed = seed*6364136223846793005 + 1442695040888963407
		return int(seed >> 33 % uint64(below))
	}
}

// wantTree sees that s is read as a tree.
func wantTree(t *testing.T, s string, want tree.Node) {
	t.Helper()
	n, at, e := ere.Parse(s)
	if e != api.OK || at != 0 || !same(n, want) {
		t.Errorf("%.80q: %+v, %d, %v, want %+v", s, n, at, e, want)
	}
	if e == api.OK && !tree.Formed(n) {
		t.Errorf("%.80q: %+v isn't formed", s, n)
	}
}

// wantWrong sees that s is refused at a place, with nothing beside it.
func wantWrong(t *testing.T, s string, place int) {
	t.Helper()
	n, at, e := ere.Parse(s)
	if e != api.ErrPattern || at != place || !same(n, tree.Node{}) {
		t.Errorf("%.80q: %+v, %d, %v, want ErrPattern, %d", s, n, at, e, place)
	}
}

// P10.1, what is right

func TestBytesThatAreThemselves(t *testing.T) {
	const special = ".[()*+?{|^$\\\n"
	for c := range 256 {
		b := string([]byte{byte(c)})
		if strings.Contains(special, b) {
			continue
		}
		l := lit(byte(c))
		wantTree(t, b, l)
		wantTree(t, "x"+b+"y", lits("x"+b+"y"))
		wantTree(t, b+"*", star(l))
		wantTree(t, b+"+", plus(l))
		wantTree(t, b+"?", maybe(l))
		wantTree(t, b+"{2}", repeat(2, 2, l))
		wantTree(t, "("+b+")", group(1, l))
		wantTree(t, b+"|x|"+b, alt(l, lit('x'), l))
	}
}

func TestPairs(t *testing.T) {
	const themselves = `.[]()*+?{}|^$/\&-`
	for c := range 256 {
		pair := string([]byte{'\\', byte(c)})
		switch b := byte(c); {
		case strings.IndexByte(themselves, b) >= 0:
			wantTree(t, pair, lit(b))
			wantTree(t, pair+"*", star(lit(b)))
			wantTree(t, "x"+pair+"+", seq(lit('x'), plus(lit(b))))
			wantTree(t, "("+pair+"?)", group(1, maybe(lit(b))))
			wantTree(t, pair+"|"+pair+pair, alt(lit(b), seq(lit(b), lit(b))))
		case b == 'n':
			wantTree(t, pair, lit('\n'))
			wantTree(t, "x"+pair+"{2}n", seq(lit('x'), repeat(2, 2, lit('\n')), lit('n')))
			wantTree(t, pair+"|"+pair, alt(lit('\n'), lit('\n')))
		case b >= '1' && b <= '9':
			// A reference to a group that isn't there is refused only when all is read.
			wantWrong(t, pair, 2)
			wantWrong(t, pair+"ab", 4)
			wantWrong(t, pair+"ab**", 5)
			wantTree(t, strings.Repeat("(x)", 9)+pair, seq(append(nine('x'), back(c-'0'))...))
		default:
			wantWrong(t, pair, 0)
			wantWrong(t, "x"+pair+"y", 1)
			wantWrong(t, "ab(c|"+pair, 5)
		}
	}
}

// nine are nine groups of a byte.
func nine(c byte) []tree.Node {
	var l []tree.Node
	for i := range api.MaxGroups {
		l = append(l, group(i+1, lit(c)))
	}
	return l
}

func TestAtomsOneBehindTheOther(t *testing.T) {
	a, b := lit('a'), lit('b')
	for s, want := range map[string]tree.Node{
		"a": a, "ab": seq(a, b), "aa": seq(a, a), "abc": lits("abc"), ".": anyByte(), "..": seq(anyByte(), anyByte()), "a.b": seq(a, anyByte(), b),
		"[ab]": in("ab"), "[a]": in("a"), "a[^a-c]b": seq(a, outOf("abc"), b), "[]a]": in("]a"), "[[:digit:]x]": in("0123456789x"), "[[.].]]]": seq(in("]"), lit(']')), "[a-]b": seq(in("a-"), b), `[\n]`: in("\n"), `[\]`: in(`\`), `[\]]`: seq(in(`\`), lit(']')), "[*+?]": in("*+?"), "[(]a": seq(in("("), a), "[a|b]": in("a|b"), "[)]": in(")"), "[$]": in("$"), "[^^]": outOf("^"), "[{1}]": in("{1}"), "[.]": in("."), "([)])": group(1, in(")")), "[|]|[)]": alt(in("|"), in(")")),
		"]": lit(']'), "}": lit('}'), "a]b}": lits("a]b}"), "]}": lits("]}"), "1}": lits("1}"), "a,b": lits("a,b"), "-&/": lits("-&/"), "\x00\xff": lits("\x00\xff"), "é": lits("é"), "123": lits("123"), "n": lit('n'),
		`\\n`: lits(`\n`), `\\\n`: lits("\\\n"), `\\(a)`: seq(lit('\\'), group(1, a)), `\\\\`: lits(`\\`), `\.a\.`: lits(".a."), `\[a]`: lits("[a]"), `\(a\)`: lits("(a)"), `a\|b`: lits("a|b"), `a\{2\}`: lits("a{2}"), `a\{2}`: lits("a{2}"), `\^a\$`: lits("^a$"), `a\*\+\?`: lits("a*+?"), `(\))`: group(1, lit(')')), `\((a)`: seq(lit('('), group(1, a)),
	} {
		wantTree(t, s, want)
	}
}

func TestBranches(t *testing.T) {
	a, b, c := lit('a'), lit('b'), lit('c')
	for s, want := range map[string]tree.Node{
		"a|b": alt(a, b), "a|b+": alt(a, plus(b)), "a|b|c": alt(a, b, c), "a|a": alt(a, a), "ab|c": alt(seq(a, b), c), "a|bc": alt(a, seq(b, c)), "ab|bc|ca": alt(seq(a, b), seq(b, c), seq(c, a)), ".|[ab]": alt(anyByte(), in("ab")),
		"(a|b)": group(1, alt(a, b)), "(a|b)c": seq(group(1, alt(a, b)), c), "c(a|b)": seq(c, group(1, alt(a, b))), "(a)|(b)": alt(group(1, a), group(2, b)), "(a|b)|c": alt(group(1, alt(a, b)), c), "c|(a|b)": alt(c, group(1, alt(a, b))), "((a|b)|c)": group(1, alt(group(2, alt(a, b)), c)), "(a|b)*": star(group(1, alt(a, b))), "(a|b){2}|c": alt(repeat(2, 2, group(1, alt(a, b))), c), "(ab|c)(a|bc)": seq(group(1, alt(seq(a, b), c)), group(2, alt(a, seq(b, c)))), "a|(b)|c": alt(a, group(1, b), c),
		"a*|b?": alt(star(a), maybe(b)), "a{1}|b{2,}": alt(repeat(1, 1, a), repeat(2, -1, b)), "^|$": alt(begin(), end()), "^a|b$": alt(seq(begin(), a), seq(b, end())), "a|^": alt(a, begin()), "$|a": alt(end(), a), "(^|a)b": seq(group(1, alt(begin(), a)), b), "(a|$)": group(1, alt(a, end())), "(a)(b)\\1|c\\2": alt(seq(group(1, a), group(2, b), back(1)), seq(c, back(2))), "(a)|\\1": alt(group(1, a), back(1)), "(a|(b)|c)\\2": seq(group(1, alt(a, group(2, b), c)), back(2)), `\||\|`: alt(lit('|'), lit('|')), `a|\n`: alt(a, lit('\n')), "}|]": alt(lit('}'), lit(']')),
	} {
		wantTree(t, s, want)
	}
}

func TestRepeats(t *testing.T) {
	a, b := lit('a'), lit('b')
	for s, want := range map[string]tree.Node{
		"a*": star(a), "a+": plus(a), "a?": maybe(a), "a*b": seq(star(a), b), "ab*": seq(a, star(b)), "ab+": seq(a, plus(b)), "ab?": seq(a, maybe(b)), "a*b+a?": seq(star(a), plus(b), maybe(a)), ".*": star(anyByte()), ".+": plus(anyByte()), ".?": maybe(anyByte()), "[ab]*": star(in("ab")), "[ab]+": plus(in("ab")), "]*": star(lit(']')), "}*": star(lit('}')), "a}+": seq(a, plus(lit('}'))),
		"a{2}": repeat(2, 2, a), "a{2,}": repeat(2, -1, a), "a{2,3}": repeat(2, 3, a), "a{2,2}": repeat(2, 2, a), "a{0}": repeat(0, 0, a), "a{1}": repeat(1, 1, a), "a{0,}": repeat(0, -1, a), "a{1,}": repeat(1, -1, a), "a{0,0}": repeat(0, 0, a), "a{0,1}": repeat(0, 1, a),
		"a{255}": repeat(255, 255, a), "a{255,}": repeat(255, -1, a), "a{0,255}": repeat(0, 255, a), "a{255,255}": repeat(255, 255, a), "a{254,255}": repeat(254, 255, a), "a{9,10}": repeat(9, 10, a),
		"a{007}": repeat(7, 7, a), "a{000,0000255}": repeat(0, 255, a), "a{" + strings.Repeat("0", 5000) + "12,}": repeat(12, -1, a),
		"(a)*": star(group(1, a)), "(a)+": plus(group(1, a)), "(a)?": maybe(group(1, a)), "(ab){3}b": seq(repeat(3, 3, group(1, seq(a, b))), b), "(a*)*": star(group(1, star(a))), "(a+)?": maybe(group(1, plus(a))), "(a{1,2}){3,4}": repeat(3, 4, group(1, repeat(1, 2, a))), "(^)*": star(group(1, begin())), "($)+": plus(group(1, end())), "(^$){2}": repeat(2, 2, group(1, seq(begin(), end()))),
		"(a)\\1*": seq(group(1, a), star(back(1))), "(a)*\\1{2}": seq(star(group(1, a)), repeat(2, 2, back(1))), "(a)\\1+": seq(group(1, a), plus(back(1))), `\n*`: star(lit('\n')), `\n?`: maybe(lit('\n')), ".{3,}": repeat(3, -1, anyByte()), "[a]{4}": repeat(4, 4, in("a")), `\{{2}`: repeat(2, 2, lit('{')), `\**`: star(lit('*')), `\++`: plus(lit('+')), `\??`: maybe(lit('?')), `\*+`: plus(lit('*')),
		"a{2}b{3}": seq(repeat(2, 2, a), repeat(3, 3, b)), "a{1}}": seq(repeat(1, 1, a), lit('}')), "a{1}}*": seq(repeat(1, 1, a), star(lit('}'))), `a\**`: seq(a, star(lit('*'))), "a*1}": seq(star(a), lit('1'), lit('}')), "a{1},2": seq(repeat(1, 1, a), lit(','), lit('2')), "^a*$": seq(begin(), star(a), end()), "a|b*": alt(a, star(b)),
	} {
		wantTree(t, s, want)
	}
	for from := range api.MaxRepeat + 1 {
		for _, to := range []int{from, from + 1, 127, 254, 255} {
			s := "a{" + strconv.Itoa(from) + "," + strconv.Itoa(to) + "}"
			if to >= from && to <= api.MaxRepeat {
				wantTree(t, s, repeat(from, to, a))
			} else {
				wantWrong(t, s, 1)
			}
		}
		wantTree(t, "a{"+strconv.Itoa(from)+"}", repeat(from, from, a))
		wantTree(t, "a{"+strconv.Itoa(from)+",}", repeat(from, -1, a))
	}
}

// Anchors are anchors wherever they stand, but behind a backslash and in brackets.
func TestAnchors(t *testing.T) {
	a, b, hat, dollar := lit('a'), lit('b'), lit('^'), lit('$')
	for s, want := range map[string]tree.Node{
		"^": begin(), "$": end(), "^$": seq(begin(), end()), "$^": seq(end(), begin()), "^a$": seq(begin(), a, end()), "^a": seq(begin(), a), "a$": seq(a, end()), "a^": seq(a, begin()), "$a": seq(end(), a), "a^b": seq(a, begin(), b), "a$b": seq(a, end(), b), "^^": seq(begin(), begin()), "$$": seq(end(), end()), "^^^": seq(begin(), begin(), begin()), "a^$b": seq(a, begin(), end(), b),
		"(^a)": group(1, seq(begin(), a)), "(^)": group(1, begin()), "($)": group(1, end()), "(^$)": group(1, seq(begin(), end())), "(a$)": group(1, seq(a, end())), "a(^a)": seq(a, group(1, seq(begin(), a))), "(a$)a": seq(group(1, seq(a, end())), a), "(a)^": seq(group(1, a), begin()), "$(a)": seq(end(), group(1, a)), "(a^b)": group(1, seq(a, begin(), b)), "a*^": seq(star(a), begin()), "$a*": seq(end(), star(a)), "a+$": seq(plus(a), end()), "^a{2}$": seq(begin(), repeat(2, 2, a), end()), `\n^`: seq(lit('\n'), begin()), `$\n`: seq(end(), lit('\n')),
		`\^`: hat, `\^a`: seq(hat, a), `(\^a)`: group(1, seq(hat, a)), `\$`: dollar, `a\$`: seq(a, dollar), `(a\$)`: group(1, seq(a, dollar)), "[^$]$": seq(outOf("$"), end()), `\^*`: star(hat), `\$+`: plus(dollar), "[$]*": star(in("$")), `^\^`: seq(begin(), hat), `\$$`: seq(dollar, end()), "^}": seq(begin(), lit('}')), "$1": seq(end(), lit('1')),
	} {
		wantTree(t, s, want)
	}
}

func TestGroupsAndReferences(t *testing.T) {
	a, b := lit('a'), lit('b')
	for s, want := range map[string]tree.Node{
		"(a)": group(1, a), "(ab)": group(1, seq(a, b)), "(a)(b)": seq(group(1, a), group(2, b)), "((a)b)": group(1, seq(group(2, a), b)), "(a(b))": group(1, seq(a, group(2, b))), "((a)(b))(a)": seq(group(1, seq(group(2, a), group(3, b))), group(4, a)), "a(a((b)*))b": seq(a, group(1, seq(a, group(2, star(group(3, b))))), b), "((a))": group(1, group(2, a)), "((a)|(b))(a)": seq(group(1, alt(group(2, a), group(3, b))), group(4, a)), "(a)|(b)(a)": alt(group(1, a), seq(group(2, b), group(3, a))),
		`(a)\1`: seq(group(1, a), back(1)), `(a)(b)\2\1`: seq(group(1, a), group(2, b), back(2), back(1)), `((a)\2)\1`: seq(group(1, seq(group(2, a), back(2))), back(1)), `(a)(\1)`: seq(group(1, a), group(2, back(1))), `(a)\11`: seq(group(1, a), back(1), lit('1')), `(a)\10`: seq(group(1, a), back(1), lit('0')), `(a)b\1\1`: seq(group(1, a), b, back(1), back(1)), `(^a)\1$`: seq(group(1, seq(begin(), a)), back(1), end()), `((a)|\2)`: group(1, alt(group(2, a), back(2))),
	} {
		wantTree(t, s, want)
	}
	var groups, backs []tree.Node
	text, told := "", ""
	for i := range api.MaxGroups {
		groups = append(groups, group(i+1, lit(byte('a'+i))))
		backs = append(backs, back(i+1))
		text += "(" + string(rune('a'+i)) + ")"
		told += `\` + strconv.Itoa(i+1)
	}
	wantTree(t, text+told, seq(append(groups, backs...)...))
}

// P10.1, what is wrong

// A branch has one atom at least.
func TestBranchesWithoutAnAtom(t *testing.T) {
	for s, place := range map[string]int{
		"": 0, "|": 0, "|a": 0, "a||b": 2, "||": 0, "a|||": 2, "a|b||": 4, "(|a)": 1, "(|": 1, "(a||b)": 3, "(a|b)||c": 6, "x|(|)": 3, "(a)||": 4, "a*||b": 3, "^||$": 2, `\|||a`: 3, "[|]||a": 4, "(a|b||c)d": 5, "a|||*": 2, "||\n": 0, "(||a": 1,
		"()": 1, "a()": 2, "(a|)": 3, "(a|b|)": 5, "(|)": 1, "(())": 2, "((a)())": 5, "()*": 1, "()|a": 1, "a|()": 3, "((a|)b)": 4, `()\1`: 1, "(": 1, "((": 2, "(a|": 3, "(a|b|": 5, "((a|": 4,
		"a|": 2, "a|b|": 4, "ab|": 3, "(a)|": 4, "a*|": 3, "^|": 2, "[a]|": 4, "a{2}|": 5, `\n|`: 3, "(a|b)c|": 7,
	} {
		wantWrong(t, s, place)
	}
}

func TestPairsThatAreWrong(t *testing.T) {
	for s, place := range map[string]int{
		`\`: 0, `a\`: 1, `\\\`: 2, `^\`: 1, `a*\`: 2, `(\`: 1, `(a\`: 2, `[a]\`: 3, "\\\n": 0, "a\\\n": 1, `\\\q`: 2, `a|\`: 2, `a|\q`: 2, `\0`: 0, `(a)\0`: 3, `\N`: 0, `\]\[\x`: 4, `\é`: 0, "\\\x00": 0, `\<a\>`: 0, `a\w+`: 1, `\,`: 0, `\=`: 0, `\"`: 0, `a{1}\{\:`: 6, `\(\`: 2,
	} {
		wantWrong(t, s, place)
	}
}

func TestLineFeeds(t *testing.T) {
	for s, place := range map[string]int{
		"\n": 0, "a\n": 1, "a\nb": 1, "^\n": 1, "$\n": 1, "a*\n": 2, "(\n)": 1, "(a)\n": 3, "(a\n)": 2, "a|\n": 2, "a\n|b": 1, "a{1}\n": 4, "\\n\n": 2, "\\\\\n": 2, "[a]\n": 3, "\n\n": 0, "\n**": 0, "a\n\\q": 1, "\n|": 0, "\n*": 0, "a+\n": 2, "a?\n": 2,
		"[a\nb]": 0, "x[\n]": 1, "a{1\n}": 1, "a{\n1}": 1, "a{\n": 1, "\\\na": 0,
	} {
		wantWrong(t, s, place)
	}
}

func TestBracketExpressionsThatAreNone(t *testing.T) {
	for s, place := range map[string]int{
		"[": 0, "[]": 0, "[^]": 0, "[a": 0, "a[": 1, "a[b": 1, "b[b-a]": 1, "[[:none:]]": 0, "a*[a-": 2, "([a)": 1, "(a)[": 3, "[a][": 3, "^[": 1, "[[.a]": 0, "[a-z-9-]x[]x": 9, "[a]]*[": 5, `\[[`: 2, "[a]*[b\n]": 4, "[z-a]*": 0, "[a**": 0, `[a\`: 0, "a|[": 2, "a|[|b": 2, "(a|[)": 3, "[(a)": 0,
	} {
		wantWrong(t, s, place)
	}
}

func TestRepeatsThatAreNone(t *testing.T) {
	for _, inner := range []string{
		"", ",", ",2", ",,", "2,1", "1,0", "255,254", "256", "256,", "256,256", "0,256", "1,256", "1000", "1,1000", "a", "1a", "a1", "1,a", "1,2a", "1,2,", "1,2,3", "1,,2", " 1", "1 ", "1, 2", "1 ,2", "+1", "-1", "1,-1", "1,+2", "0x1", "1.0", "1e1", "1_0", "\n", "1\n", "1,\n", "é", "١", "\x00", `\1`, `1\,2`, `1\`, "1,2\\", "{1", "(1", "1)", "1|", "*", "1*",
		"18446744073709551616", "18446744073709551617", "4294967297", "1,18446744073709551618", "18446744073709551616,", "2560000000000000000000000000", strings.Repeat("9", 10000), "1," + strings.Repeat("9", 10000), strings.Repeat("0", 10000) + "256",
	} {
		text := "a{" + inner + "}"
		wantWrong(t, text, 1)
		wantWrong(t, "b"+text+"c", 2)
		wantWrong(t, "("+text+")", 2)
		wantWrong(t, "b|"+text+"|c", 3)
		wantWrong(t, "a*b"+text[1:]+`\q`, 3)
	}
	for s, place := range map[string]int{
		"a{": 1, "a{1": 1, "a{1,": 1, "a{1,2": 1, `a{1\}`: 1, `a{1,2\}`: 1, "(a){": 3, "(a){1)": 3, "(a){1|}": 3, "[a]{2": 3, ".{1b{2}": 1, "(a{1)}": 2, `\n{`: 2, "a{1{2}": 1, "a{{": 1, "a{{1}}": 1, `\}{`: 2, "}{": 1, "]{,}": 1, "a{1|b}": 1, `(a)\1{`: 5,
	} {
		wantWrong(t, s, place)
	}
}

// Digits alone, and one comma, may stand in a repeat.
func TestEachByteInARepeat(t *testing.T) {
	a := lit('a')
	for c := range 256 {
		b := string([]byte{byte(c)})
		n := c - '0'
		switch {
		case n >= 0 && n <= 9:
			wantTree(t, "a{"+b+"}", repeat(n, n, a))
			wantTree(t, "a{1"+b+"}", repeat(10+n, 10+n, a))
			wantTree(t, "a{1,2"+b+"}", repeat(1, 20+n, a))
			wantTree(t, "a{0,"+b+"}", repeat(0, n, a))
			continue
		case b == "}":
			wantTree(t, "a{1"+b+"}", seq(repeat(1, 1, a), lit('}')))
			wantTree(t, "a{1,2"+b+"}", seq(repeat(1, 2, a), lit('}')))
			wantTree(t, "a{0,"+b+"}", seq(star(a), lit('}')))
			wantWrong(t, "a{"+b+"}", 1)
			continue
		case b == ",":
			wantTree(t, "a{1"+b+"}", repeat(1, -1, a))
		default:
			wantWrong(t, "a{1"+b+"}", 1)
		}
		wantWrong(t, "a{"+b+"}", 1)
		wantWrong(t, "a{"+b+"1}", 1)
		wantWrong(t, "a{1,2"+b+"}", 1)
		wantWrong(t, "a{0,"+b+"}", 1)
	}
}

// No repeat stands behind a repeat, behind an anchor, and at the beginning of a branch: not even one that is none by itself.
func TestRepeatsWhereNoneStands(t *testing.T) {
	for _, second := range []string{"*", "+", "?", "{2}", "{2,}", "{2,3}", "{0}", "{", "{1", "{x}", "{,2}", "{2,1}", "{256}", "{}"} {
		for _, behind := range []string{"", "a", ")", "|b", "*", `\q`, "\n"} {
			for _, ahead := range []string{
				"a*", "a+", "a?", "a{2}", "a{2,}", "a{2,3}", "a{0}", "ba*", "(a)*", "(a)+", "[a]*", ".?", `\n+`, `(a)\1*`, "(a+", "b|a*", "(b|a?",
				"^", "$", "a^", "a$", "(^", "(a$", "b|^", "b|$", "(b|$", "^^", "$$", "^$", "a*^",
				"", "(", "a|", "(a|", "((", "a*|", "(a)|", "^|", "a|b|", "a(",
			} {
				wantWrong(t, ahead+second+behind, len(ahead))
			}
		}
	}
	for s, place := range map[string]int{"a**": 2, "a+?": 2, "a???": 2, "a*b**": 4, "***": 0, "a(b)**": 5, "^*": 1, "^*a": 1, "(^*)": 2, "a|*b": 2, "a{2}{3}": 4, "a{1}}{2}*": 8, "a${1}": 2, "^{1}a": 1} {
		wantWrong(t, s, place)
	}
}

func TestGroupsThatAreNotClosedOrNotOpened(t *testing.T) {
	for s, place := range map[string]int{
		"(": 1, "(a": 2, "(a*": 3, "(^": 2, "(a$": 3, "((a)": 4, "((": 2, "a(b(c": 5, `(a\)`: 4, `(a\\`: 4, "([)]": 4, "(a)(": 4, `(\1`: 3, "(a|b": 4, "(a|b)|(c": 8, "((a|b)|c": 8, "(a{2}": 5, "b|(a": 4,
		")": 0, "a)": 1, "^)": 1, "$)": 1, "a$)": 2, "a*)": 2, "(a))": 3, "(a))*": 3, `\(a)`: 3, "a)(": 1, "((a)))b": 5, ")(a)": 0, `\\(a))`: 5, "a|b)": 3, "a|)": 2, "|)": 0, "(a)|b)c": 5, "[(]a)": 4, "a{2})": 4, "a)b)": 1, "a)||": 1, `a)\q`: 1,
	} {
		wantWrong(t, s, place)
	}
}

// The tenth ( is one too many, wherever it stands; each ( ahead of it counts.
func TestTooManyGroups(t *testing.T) {
	wantWrong(t, strings.Repeat("(a)", 10), 27)
	wantWrong(t, strings.Repeat("(a)", 9)+"(", 27)
	wantWrong(t, strings.Repeat("(a)", 9)+"b(c)**", 28)
	wantWrong(t, strings.Repeat("(a)|", 10)+"b", 36)
	wantWrong(t, strings.Repeat("(a)|", 9)+"b|()", 38)
	wantWrong(t, strings.Repeat("(", 10), 9)
	wantWrong(t, strings.Repeat("(", 9), 9)
	wantWrong(t, strings.Repeat("(", 1000000), 9)
	wantWrong(t, strings.Repeat("(", 10)+"a"+strings.Repeat(")", 10), 9)
	wantWrong(t, "(((a)))"+strings.Repeat("(a)", 6)+"(a)", 25)
	wantTree(t, strings.Repeat("(a)", 9), seq(nine('a')...))
	wantTree(t, strings.Repeat("(a)|", 8)+"(a)", alt(nine('a')...))
	wantTree(t, strings.Repeat("(", 9)+"a"+strings.Repeat(")", 9), nested(9, lit('a')))
	wantTree(t, strings.Repeat(`\(`, 10), lits("(((((((((("))
	wantTree(t, strings.Repeat("(a)", 9)+"[(]", seq(append(nine('a'), in("("))...))
}

// nested is n with so many groups around it, numbered from the outer one on.
func nested(groups int, n tree.Node) tree.Node {
	for i := groups; i >= 1; i-- {
		n = group(i, n)
	}
	return n
}

func TestReferencesToGroupsThatDidNotEnd(t *testing.T) {
	for _, s := range []string{
		`\1`, `a\1b`, `\1(a)`, `(a)\2`, `(a\1)`, `(\1)`, `(a(b)\1)`, `((a)\1)\2`, `(a)(b\2)`, `(a)(b)\3`, `\9`, `(a)\9`, `\1*`, `(a\1*)`, strings.Repeat("(a)", 8) + `\9`, `\1|(a)`, `(a|\1)`, `(a)|\2`, `((a)|\1)`, `(a)|\2|(b)`,
	} {
		wantWrong(t, s, len(s))
	}
	// What can't be read comes ahead of it.
	for s, place := range map[string]int{`\1**`: 3, `\1\q`: 2, `(\1`: 3, "\\1\n": 2, `\1)`: 2, `\1||`: 3, `\1|`: 3} {
		wantWrong(t, s, place)
	}
}

func TestTooManyNodes(t *testing.T) {
	as := func(n int) string { return strings.Repeat("a", n) }
	// All of them stand in one Seq, which is a node too.
	wantTree(t, as(199), lits(as(199)))
	wantWrong(t, as(200), 200)
	wantWrong(t, as(201), 201)
	wantWrong(t, as(202), 202)
	wantTree(t, "^"+as(197)+"$", seq(append(append([]tree.Node{begin()}, listed(as(197))...), end())...))
	wantWrong(t, "^"+as(198)+"$", 200)
	wantTree(t, "("+as(198)+")", group(1, lits(as(198))))
	wantWrong(t, "("+as(199)+")", 201)
	wantTree(t, strings.Repeat("a+", 99)+"a", seq(append(slices.Repeat([]tree.Node{plus(lit('a'))}, 99), lit('a'))...))
	wantWrong(t, strings.Repeat("a+", 100), 200)
	wantWrong(t, "("+as(150)+")("+as(150)+")", 304)
	wantWrong(t, "("+as(150)+")"+as(150), 302)
	// Or in one Alt, which is one likewise, as is the Seq of each branch.
	bars := func(n int) string { return strings.Repeat("a|", n-1) + "a" }
	wantTree(t, bars(199), alt(listed(as(199))...))
	wantWrong(t, bars(200), 399)
	wantWrong(t, bars(201), 401)
	wantWrong(t, bars(202), 403)
	wantTree(t, strings.Repeat("aa|", 66)+"a", alt(append(slices.Repeat([]tree.Node{lits("aa")}, 66), lit('a'))...))
	wantWrong(t, strings.Repeat("aa|", 66)+"aa", 200)
	wantTree(t, as(98)+"|"+as(99), alt(lits(as(98)), lits(as(99))))
	wantWrong(t, as(99)+"|"+as(99), 199)
	for _, n := range []int{199, 200, 201, 202, 400, 1000} {
		wantWrong(t, as(n)+"**", n+1)
		wantWrong(t, as(n)+"\n", n)
		wantWrong(t, as(n)+`\q`, n)
		wantWrong(t, as(n)+"|", n+1)
		wantWrong(t, as(n)+"||", n+1)
		wantWrong(t, "("+as(n), n+1)
		wantWrong(t, as(n)+")", n)
		wantWrong(t, as(n)+"()", n+1)
		wantWrong(t, "("+as(n)+"))", n+2)
		wantWrong(t, bars(n)+"|*", 2*n)
		wantWrong(t, "("+bars(n)+"|)", 2*n+1)
	}
}

func TestTooDeep(t *testing.T) {
	open, shut := func(n int) string { return strings.Repeat("(", n) }, func(n int) string { return strings.Repeat(")", n) }
	a, b := lit('a'), lit('b')
	wantTree(t, open(9)+"a"+shut(9), nested(9, a))
	wantTree(t, open(8)+"a*"+shut(8), nested(8, star(a)))
	wantTree(t, open(8)+"ab"+shut(8), nested(8, lits("ab")))
	wantTree(t, open(8)+"a|b"+shut(8), nested(8, alt(a, b)))
	wantTree(t, open(7)+"ab*"+shut(7), nested(7, seq(a, star(b))))
	wantTree(t, open(7)+"ab|b"+shut(7), nested(7, alt(seq(a, b), b)))
	wantTree(t, open(6)+"ab*|b"+shut(6), nested(6, alt(seq(a, star(b)), b)))
	for _, s := range []string{
		open(9) + "a*" + shut(9), open(9) + "ab" + shut(9), open(9) + "a|b" + shut(9), open(8) + "ab*" + shut(8), open(8) + "ab|b" + shut(8), open(8) + "b|a?" + shut(8), open(7) + "ab*|b" + shut(7), "b" + open(9) + "a" + shut(9), "b|" + open(9) + "a" + shut(9), open(9) + "a" + shut(9) + "*", open(9) + "a" + shut(9) + "|b",
	} {
		wantWrong(t, s, len(s))
		wantWrong(t, s+"b**", len(s)+2)
	}
}

// The first place that is wrong is told, whatever stands behind it.
func TestTheFirstFault(t *testing.T) {
	faults := []string{"a**", "a+?", "\n", `\q`, "[", "a{", "{", "a*{1}", "*", "+", "?", ")", "|", "a||", "()", "(*", "^*", "${2}", "a|{"}
	where := []int{2, 2, 0, 0, 0, 1, 0, 2, 0, 0, 0, 0, 0, 2, 1, 1, 1, 1, 2}
	for i, first := range faults {
		for _, second := range append(faults, "", "a", `\1`, "(", "]", strings.Repeat("a", 300)) {
			// A [ is right if a ] stands behind it.
			if first == "[" && strings.Contains(second, "]") {
				continue
			}
			wantWrong(t, "x|"+first+second, 2+where[i])
		}
	}
}

// P10.1, by a second reckoning

// interval is a repeat in { and }, if its numbers are right.
var interval = regexp.MustCompile(`^\{0*([0-9]{1,3})(,(?:0*([0-9]{1,3}))?)?\}`)

// token is a part of a pattern that belongs together.
type token struct {
	text  string
	at    int
	wrong bool
	role  byte // o: (, c: ), b: |, r: a repeat, ^: an anchor, a: an atom
	node  tree.Node
}

// number is digits as a number, 0 if there are none.
func number(digits string) int {
	n, _ := strconv.Atoi(digits)
	return n
}

// cutInterval is the { that s begins with, as a repeat.
func cutInterval(s string) token {
	found := interval.FindStringSubmatch(s)
	if found == nil {
		return token{text: "{", wrong: true}
	}
	n := repeat(number(found[1]), number(found[3]))
	switch found[2] {
	case "":
		n.Max = n.Min
	case ",":
		n.Max = -1
	}
	right := n.Min <= 255 && n.Max <= 255 && (n.Max == -1 || n.Min <= n.Max)
	return token{text: found[0], wrong: !right, role: 'r', node: n}
}

// cutPair is the backslash that s begins with, and the byte behind it.
func cutPair(s string) token {
	if len(s) < 2 {
		return token{text: s, wrong: true}
	}
	c := token{text: s[:2], role: 'a', node: lit(s[1])}
	switch {
	case s[1] >= '1' && s[1] <= '9':
		c.node = back(int(s[1] - '0'))
	case s[1] == 'n':
		c.node = lit('\n')
	default:
		c.wrong = !strings.Contains(`.[]()*+?{}|^$/\&-`, s[1:2])
	}
	return c
}

// cut is the token that s begins with, without regard to what stands ahead of it.
func cut(s string) token {
	one := token{text: s[:1], role: 'a'}
	switch s[0] {
	case '\\':
		return cutPair(s)
	case '[':
		set, n, e := bracket.Parse(s, 0)
		return token{text: s[:max(n, 1)], wrong: e != api.OK, role: 'a', node: tree.Node{Kind: tree.In, Set: set}}
	case '{':
		return cutInterval(s)
	case '(':
		one.role = 'o'
	case ')':
		one.role = 'c'
	case '|':
		one.role = 'b'
	case '*':
		one.role, one.node = 'r', repeat(0, -1)
	case '+':
		one.role, one.node = 'r', repeat(1, -1)
	case '?':
		one.role, one.node = 'r', repeat(0, 1)
	case '^':
		one.role, one.node = '^', begin()
	case '$':
		one.role, one.node = '^', end()
	case '.':
		one.node = anyByte()
	default:
		one.wrong, one.node = s[0] == '\n', lit(s[0])
	}
	return one
}

// mayFollow tells whether a token of a role may stand behind one of another.
func mayFollow(ahead, role byte) bool {
	switch role {
	case 'r':
		return ahead == 'a' || ahead == 'c'
	case 'b', 'c':
		return ahead != 'o' && ahead != 'b'
	}
	return true
}

// tokens are those of s, up to the first one that can't stand where it does whatever groups are open.
func tokens(s string) []token {
	var list []token
	// The beginning is as behind a (.
	ahead := byte('o')
	for at := 0; at < len(s); {
		c := cut(s[at:])
		c.at = at
		c.wrong = c.wrong || !mayFollow(ahead, c.role)
		list = append(list, c)
		if c.wrong {
			break
		}
		at += len(c.text)
		ahead = c.role
	}
	return list
}

// onlyOr is the only one of a list, or a node of it.
func onlyOr(of func(l ...tree.Node) tree.Node, l []tree.Node) tree.Node {
	if len(l) == 1 {
		return l[0]
	}
	return of(l...)
}

// opened is a pattern whose end hasn't come: its branches.
type opened struct {
	branches [][]tree.Node
	number   int
}

// closed is the tree of its branches.
func (o opened) closed() tree.Node {
	var l []tree.Node
	for _, branch := range o.branches {
		l = append(l, onlyOr(seq, branch))
	}
	return onlyOr(alt, l)
}

// add puts n behind the last branch's atoms.
func (o opened) add(n tree.Node) {
	last := len(o.branches) - 1
	o.branches[last] = append(o.branches[last], n)
}

// reckoned is what the chapter makes of s: the tree, or the place of what is wrong.
func reckoned(s string) (tree.Node, int, bool) {
	stack := []opened{{branches: make([][]tree.Node, 1)}}
	groups := 0
	list := tokens(s)
	for _, c := range list {
		if c.wrong || c.role == 'c' && len(stack) == 1 || c.role == 'o' && groups == 9 {
			return tree.Node{}, c.at, false
		}
		top := &stack[len(stack)-1]
		switch c.role {
		case 'o':
			groups++
			stack = append(stack, opened{make([][]tree.Node, 1), groups})
		case 'c':
			stack = stack[:len(stack)-1]
			stack[len(stack)-1].add(group(top.number, top.closed()))
		case 'b':
			top.branches = append(top.branches, nil)
		case 'r':
			branch := top.branches[len(top.branches)-1]
			branch[len(branch)-1] = repeat(c.node.Min, c.node.Max, branch[len(branch)-1])
		default:
			top.add(c.node)
		}
	}
	// The end is as a ) that needs an atom ahead of it.
	if len(stack) > 1 || len(list) == 0 || !mayFollow(list[len(list)-1].role, 'c') {
		return tree.Node{}, len(s), false
	}
	n := stack[0].closed()
	if !tree.Formed(n) {
		return tree.Node{}, len(s), false
	}
	return n, 0, true
}

// wantReckoned sees that s is read as it is reckoned.
func wantReckoned(t *testing.T, s string) (right bool) {
	t.Helper()
	want, place, ok := reckoned(s)
	n, at, e := ere.Parse(s)
	if ok != (e == api.OK) || !ok && e != api.ErrPattern || at != place || !same(n, want) {
		t.Fatalf("%q: %+v, %d, %v, want %+v, %d, %v", s, n, at, e, want, place, ok)
	}
	if ok && !tree.Formed(n) {
		t.Fatalf("%q: %+v isn't formed", s, n)
	}
	return ok
}

// allTexts gives all texts of so many of these parts to do.
func allTexts(parts []string, size int, do func(s string)) {
	if size == 0 {
		do("")
		return
	}
	allTexts(parts, size-1, func(s string) {
		for _, part := range parts {
			do(s + part)
		}
	})
}

func TestAllShortTexts(t *testing.T) {
	right := 0
	const signs = "\\()[]{}*+?|^$.,a19n\n0-&"
	for _, c := range []struct {
		ahead, signs string
		size         int
	}{
		{"", signs, 0}, {"", signs, 1}, {"", signs, 2}, {"", signs, 3}, {"", "\\()[]{}*+|^$a1n\n", 4}, {"", "\\()*|^a1", 5}, {"", "()*|^a", 6}, {"a{", "{}12,*|", 5}, {"(", "()+|$a", 5}, {"(a|b)", "\\()?|{}1a", 4},
	} {
		allTexts(strings.Split(c.signs, ""), c.size, func(s string) {
			if wantReckoned(t, c.ahead+s) {
				right++
			}
		})
	}
	if right < 5000 {
		t.Errorf("only %d texts were right", right)
	}
}

func TestAllShortTextsOfParts(t *testing.T) {
	right := 0
	parts := []string{"(", ")", "|", "+", "^", "a", `\1`, "{2}", "[*]", "\n", `\`}
	for size := range 6 {
		allTexts(parts, size, func(s string) {
			if wantReckoned(t, s) {
				right++
			}
		})
	}
	allTexts([]string{"(", ")", "|", "?", "$", "a"}, 7, func(s string) {
		if wantReckoned(t, s) {
			right++
		}
	})
	if right < 5000 {
		t.Errorf("only %d texts were right", right)
	}
}

// manyParts are parts of patterns, those that are right often.
func manyParts() []string {
	return []string{
		"a", "b", "c", "a", "b", "c", "a*", "b+", "c?", "*", "+", "?", ".", "^", "$", "|a", "|b", "|", "}", "]", "\x00", "\xff", "é", "1", ",",
		"(", "(", "(a", ")", ")", "(a)", "(a|b)", `\1`, `\2`, `\n`, `\.`, `\*`, `\+`, `\?`, `\(`, `\)`, `\{`, `\}`, `\|`, `\^`, `\$`, `\\`, `\/`, `\&`, `\-`, `\[`, `\]`,
		"a{2}", "b{0,}", "c{1,255}", "a{007}", "{3}", "[ab]", "[^]]", "[[:digit:]]", "[a-c]*", "(^a$)", "(^|b)", "[|)]",
	}
}

// wrongParts are parts that make most patterns wrong.
func wrongParts() []string {
	return []string{"\n", `\`, `\q`, `\0`, "[", "[^", "[z-a]", "{", "{1", "{2,1}", "{256}", "{,1}", "**", "+?", `\9`, "{1}{1}", "||", "()", "(|", "|)", "^*", "$+", "(*"}
}

func TestMixedTexts(t *testing.T) {
	next := chosen(2026)
	right := 0
	parts, wrong := manyParts(), wrongParts()
	for range 200000 {
		s := ""
		open := 0
		for range 1 + next(12) {
			part := parts[next(len(parts))]
			if next(40) == 0 {
				part = wrong[next(len(wrong))]
			}
			open += strings.Count(part, "(") - strings.Count(part, ")")
			s += part
		}
		if next(4) > 0 {
			s += strings.Repeat(")", max(open, 0))
		}
		if wantReckoned(t, s) {
			right++
		}
	}
	if right < 20000 || right > 180000 {
		t.Errorf("%d texts were right", right)
	}
}

// Patterns with so many nodes, levels and groups that some of them aren't formed.
func TestMixedLargeTexts(t *testing.T) {
	next := chosen(5)
	right, unformed := 0, 0
	parts := []string{"a", "b*", ".", "[a-c]", `\n`, "c{1,2}", "(ab)", "d$", "^e", `\1`, "fghijk", "x|y", "x|y+"}
	for range 5000 {
		s := ""
		groups := next(api.MaxGroups + 1)
		for range groups {
			s += strings.Repeat("x", next(2)) + "("
		}
		s += "z"
		for range next(60) {
			s += parts[next(len(parts))]
		}
		for range groups {
			s += ")" + strings.Repeat("+", next(2))
		}
		if wantReckoned(t, s) {
			right++
		} else if _, at, _ := ere.Parse(s); at == len(s) {
			unformed++
		}
	}
	if right < 500 || unformed < 500 {
		t.Errorf("%d were right, %d not formed", right, unformed)
	}
}

// completed is s with an atom where its last branch needs one, and its groups closed.
func completed(s string) string {
	open, role := 0, byte('o')
	for _, c := range tokens(s) {
		role = c.role
		switch role {
		case 'o':
			open++
		case 'c':
			open--
		}
	}
	if !mayFollow(role, 'c') {
		s += "a"
	}
	return s + strings.Repeat(")", open)
}

// What stands ahead of the place of a fault can go on: it is right as soon as it is completed, but for its tree.
func TestWhatIsAheadOfAFaultCanGoOn(t *testing.T) {
	next := chosen(11)
	parts := append(manyParts(), wrongParts()...)
	seen := 0
	for range 100000 {
		s := ""
		for range 1 + next(8) {
			s += parts[next(len(parts))]
		}
		_, at, e := ere.Parse(s)
		if e == api.OK || at == len(s) {
			continue
		}
		seen++
		ahead := completed(s[:at])
		if _, again, e := ere.Parse(ahead); e != api.OK && again != len(ahead) {
			t.Fatalf("%q is wrong at %d, but %q at %d", s, at, ahead, again)
		}
		// And what stands there can't go on, whatever comes behind all of it, but where that may be its end.
		if s[at] == '[' || s[at] == '{' || s[at:] == `\` {
			continue
		}
		for _, more := range []string{"a", ")", "*", "|", "a)"} {
			if _, again, e := ere.Parse(s + more); e != api.ErrPattern || again != at {
				t.Fatalf("%q is wrong at %d, with %q behind it %v at %d", s, at, more, e, again)
			}
		}
	}
	if seen < 30000 {
		t.Errorf("only %d were wrong", seen)
	}
}

// P10.2

func TestWhatIsReadIsFormed(t *testing.T) {
	next := chosen(3)
	right := 0
	parts := manyParts()
	for range 200000 {
		s := ""
		for range next(15) {
			s += parts[next(len(parts))]
		}
		n, at, e := ere.Parse(s)
		switch {
		case e == api.OK && (at != 0 || n.Kind == 0 || !tree.Formed(n)):
			t.Fatalf("%q: %+v, %d", s, n, at)
		case e == api.OK:
			right++
		case e != api.ErrPattern || at < 0 || at > len(s) || !same(n, tree.Node{}):
			t.Fatalf("%q: %+v, %d, %v", s, n, at, e)
		}
	}
	if right < 5000 {
		t.Errorf("only %d were right", right)
	}
}

// R1, R2 and R3

func TestAnythingAtAll(t *testing.T) {
	next := chosen(99)
	for range 100000 {
		b := make([]byte, next(20))
		for i := range b {
			b[i] = byte(next(256))
			if next(3) > 0 {
				b[i] = `\\()[]{}*+?|^$.a1`[next(17)]
			}
		}
		wantReckoned(t, string(b))
	}
}

func TestLongTexts(t *testing.T) {
	const many = 1 << 18
	for s, place := range map[string]int{
		"a": many, "a*": 2 * many, ".": many, "[a]": 3 * many, `\n`: 2 * many, `\1`: 2 * many, "a{1}": 4 * many, "$": many, "^": many, `\-`: 2 * many, `\`: many, "a|": 2 * many, "|a": 0, "ab|": 3 * many, "^|": 2 * many,
		"*": 0, "+": 0, "?": 0, "|": 0, "(": 9, ")": 0, "[": 0, "[a": 0, "[:": 0, "{": 0, "a{": 1, "a{1": 1, "\n": 0, "(a)": 27, "(a)|": 36, `\q`: 0, "()": 1, "(a|": 27,
	} {
		wantWrong(t, strings.Repeat(s, many), place)
	}
	wantWrong(t, "a{"+strings.Repeat("0", many), 1)
	wantWrong(t, "a{"+strings.Repeat("1", many)+"}", 1)
	wantWrong(t, strings.Repeat("a", many)+"**", many+1)
	wantWrong(t, strings.Repeat("a|", many)+"|", 2*many)
	wantWrong(t, strings.Repeat("a|", many)+"a", 2*many+1)
	wantWrong(t, "("+strings.Repeat("a|", many)+"a)", 2*many+3)
	wantTree(t, "a{"+strings.Repeat("0", many)+"3}", repeat(3, 3, lit('a')))
	wantTree(t, "["+strings.Repeat("a", many)+"]", in("a"))
}

// mangle changes all that can be reached from n, the spare room of its lists too.
func mangle(n *tree.Node) {
	l := n.L[:cap(n.L)]
	for i := range l {
		mangle(&l[i])
		l[i] = tree.Node{Kind: 99, C: 99, N: 99}
	}
}

func TestAnswersShareNoMemory(t *testing.T) {
	for _, s := range []string{"a", "ab", "a*", "a|b", "aaa*|b+|c?", "(a)", `(ab*)\1`, `^(a(b)*c){2}$`, "(a|b)|(c|d)", "[ab]c[de]", strings.Repeat("a", 199), strings.Repeat("a|", 198) + "a"} {
		want, _, e := ere.Parse(s)
		if e != api.OK {
			t.Fatalf("%q: %v", s, e)
		}
		other, _, _ := ere.Parse(s)
		mangle(&other)
		again, at, e := ere.Parse(s)
		if e != api.OK || at != 0 || !same(want, again) {
			t.Errorf("%q: %+v, and then %+v", s, want, again)
		}
	}
}

// No two lists of one answer share memory, spare room too.
func TestListsOfOneAnswerShareNoMemory(t *testing.T) {
	n, _, e := ere.Parse(`a(b(cd|d)e|f)*f|(g)\1[h]{2}|x(y+|z)`)
	if e != api.OK {
		t.Fatal(e)
	}
	cells := map[*tree.Node]int{}
	lists := 0
	var walk func(tree.Node)
	walk = func(n tree.Node) {
		lists++
		full := n.L[:cap(n.L)]
		for i := range full {
			cells[&full[i]]++
		}
		for _, part := range n.L {
			walk(part)
		}
	}
	walk(n)
	for _, times := range cells {
		if times > 1 {
			t.Fatalf("%+v shares a cell", n)
		}
	}
	if lists != tree.Count(n) {
		t.Errorf("%d lists of %d nodes", lists, tree.Count(n))
	}
}
