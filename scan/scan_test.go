package scan_test

import (
	"strings"
	"testing"

	"redactor/api"
	"redactor/scan"
	"redactor/tree"
)

func lit(c byte) tree.Node { return tree.Node{Kind: tree.Lit, C: c} }

// wantRead sees that a part was read as n, and that rest is left.
func wantRead(t *testing.T, r *scan.Reader, n tree.Node, ok bool, want tree.Node, rest string) {
	t.Helper()
	if !ok || !tree.Same(n, want) || r.Rest != rest {
		t.Errorf("%+v, %v, %.20q left, want %+v, %.20q left", n, ok, r.Rest, want, rest)
	}
}

// wantStay sees that no part was read, and that the reader stands where it stood.
func wantStay(t *testing.T, r *scan.Reader, n tree.Node, ok bool, rest string) {
	t.Helper()
	if ok || !tree.Same(n, tree.Node{}) || r.Rest != rest {
		t.Errorf("%+v, %v, %.20q left, want nothing, %.20q left", n, ok, r.Rest, rest)
	}
}

func TestBeginsAndSkip(t *testing.T) {
	r := scan.Reader{Rest: "aab"}
	if !r.Begins("a") || !r.Begins("aab") || r.Begins("aabb") || r.Begins("b") || r.Rest != "aab" {
		t.Errorf("%q begins otherwise", r.Rest)
	}
	if !r.Skip("a") || r.Rest != "ab" || r.Skip("b") || r.Rest != "ab" {
		t.Errorf("%q is left", r.Rest)
	}
}

func TestPair(t *testing.T) {
	for s, want := range map[string]tree.Node{`\1x`: {Kind: tree.Back, N: 1}, `\9x`: {Kind: tree.Back, N: 9}, `\nx`: lit('\n'), `\+x`: lit('+'), `\\x`: lit('\\')} {
		r := scan.Reader{Rest: s}
		n, ok := r.Pair(`+\`)
		wantRead(t, &r, n, ok, want, "x")
	}
	for _, s := range []string{"", `\`, `\0`, `\*`, "\\\n"} {
		r := scan.Reader{Rest: s}
		n, ok := r.Pair(`+\`)
		wantStay(t, &r, n, ok, s)
	}
}

func TestBracket(t *testing.T) {
	r := scan.Reader{Rest: "[a]b"}
	n, ok := r.Bracket()
	want := tree.Node{Kind: tree.In}
	want.Set = want.Set.With('a', 'a')
	wantRead(t, &r, n, ok, want, "b")
	for _, s := range []string{"", "a", "[a", "[b-a]"} {
		r := scan.Reader{Rest: s}
		n, ok := r.Bracket()
		wantStay(t, &r, n, ok, s)
	}
}

func TestGroup(t *testing.T) {
	r := scan.Reader{Rest: "<<a>>b"}
	one := func() (tree.Node, bool) { return r.Past(1, lit('a')) }
	two := func() (tree.Node, bool) { return r.Group("<", ">", one) }
	n, ok := r.Group("<", ">", two)
	inner := tree.Node{Kind: tree.Group, N: 2, L: []tree.Node{lit('a')}}
	wantRead(t, &r, n, ok, tree.Node{Kind: tree.Group, N: 1, L: []tree.Node{inner}}, "b")
	r.Rest = "<ab>"
	n, ok = r.Group("<", ">", one)
	wantStay(t, &r, n, ok, "b>")
	for range api.MaxGroups - 3 {
		r.Rest = "<a>"
		if _, ok := r.Group("<", ">", one); !ok {
			t.Fatal("too many groups")
		}
	}
	r.Rest = "<a>"
	n, ok = r.Group("<", ">", one)
	wantStay(t, &r, n, ok, "<a>")
}

func TestCounted(t *testing.T) {
	a := lit('a')
	for s, want := range map[string]tree.Node{
		"{2}b": scan.Repeat(2, 2, a), "{2,}b": scan.Repeat(2, scan.Unbounded, a), "{0,255}b": scan.Repeat(0, 255, a), "{007}b": scan.Repeat(7, 7, a),
	} {
		r := scan.Reader{Rest: s}
		n, ok := r.Counted("{", "}", a)
		wantRead(t, &r, n, ok, want, "b")
	}
	for _, s := range []string{"{", "{2", "{}", "{,}", "{,2}", "{2,1}", "{256}", "{0,256}", "{x}", "{1,2,3}", "{99999999999999999999}"} {
		r := scan.Reader{Rest: s}
		n, ok := r.Counted("{", "}", a)
		wantStay(t, &r, n, ok, s)
	}
}

// Full, but no tree with that many atoms is formed.
func TestFull(t *testing.T) {
	r := scan.Reader{Rest: strings.Repeat("a", api.MaxNodes+2)}
	for i := range api.MaxNodes + 2 {
		if r.Full() != (i > api.MaxNodes) {
			t.Errorf("full with %d atoms: %v", i, r.Full())
		}
		r.Past(1, lit('a'))
	}
	if n, at, e := r.Answer(9, lit('a'), true); n.Kind != 0 || at != 9 || e != api.ErrPattern {
		t.Errorf("%+v, %d, %v", n, at, e)
	}
}

func TestAnswer(t *testing.T) {
	for rest, place := range map[string]int{"": 9, "bcd": 6} {
		r := scan.Reader{Rest: rest}
		if n, at, e := r.Answer(9, tree.Node{}, false); n.Kind != 0 || at != place || e != api.ErrPattern {
			t.Errorf("%q left: %+v, %d, %v", rest, n, at, e)
		}
	}
	var r scan.Reader
	if n, at, e := r.Answer(9, lit('a'), true); !tree.Same(n, lit('a')) || at != 0 || e != api.OK {
		t.Errorf("%+v, %d, %v", n, at, e)
	}
	if n, at, e := r.Answer(9, tree.Node{Kind: tree.Back, N: 1}, true); n.Kind != 0 || at != 9 || e != api.ErrPattern {
		t.Errorf("not formed: %+v, %d, %v", n, at, e)
	}
	r.Rest = ")"
	if n, at, e := r.Answer(9, lit('a'), true); n.Kind != 0 || at != 8 || e != api.ErrPattern {
		t.Errorf("%q left: %+v, %d, %v", r.Rest, n, at, e)
	}
}
