// Package scan goes along a pattern, and reads what layers 9 and 10 write alike: see shared/doc/09-bre.md.
package scan

import (
	"strings"

	"redactor/api"
	"redactor/bracket"
	"redactor/tree"
)

const (
	// Unbounded is the Max of a Repeat without bound.
	Unbounded = -1
	// pairLen is how many bytes a backslash and the byte behind it are.
	pairLen = len(`\n`)
)

// Reader goes along a pattern; Rest is what it has not gone past yet. Where a part is wrong, it stands at what is wrong.
type Reader struct {
	Rest   string
	atoms  int
	groups int
}

// Begins tells whether text stands next.
func (r *Reader) Begins(text string) bool {
	return strings.HasPrefix(r.Rest, text)
}

// Skip goes past text, if it stands next.
func (r *Reader) Skip(text string) bool {
	found := r.Begins(text)
	r.Rest = strings.TrimPrefix(r.Rest, text)
	return found
}

// Past goes past so many bytes, which are the atom n.
func (r *Reader) Past(size int, n tree.Node) (tree.Node, bool) {
	r.Rest = r.Rest[size:]
	r.atoms++
	return n, true
}

// Full tells whether too many atoms came for a formed tree: who puts them together leaves out what comes then, since the nodes of a long text would take a lot of room.
func (r *Reader) Full() bool {
	return r.atoms > api.MaxNodes
}

// Pair reads a backslash and the byte behind it: a reference, a line feed, or one of plain, which is itself.
func (r *Reader) Pair(plain string) (tree.Node, bool) {
	if len(r.Rest) < pairLen {
		return tree.Node{}, false
	}
	switch c := r.Rest[1]; {
	case c >= '1' && c <= '9':
		return r.Past(pairLen, tree.Node{Kind: tree.Back, N: int(c - '0')})
	case c == 'n':
		return r.Past(pairLen, tree.Node{Kind: tree.Lit, C: '\n'})
	case strings.IndexByte(plain, c) >= 0:
		return r.Past(pairLen, tree.Node{Kind: tree.Lit, C: c})
	}
	return tree.Node{}, false
}

// Bracket reads a bracket expression.
func (r *Reader) Bracket() (tree.Node, bool) {
	set, size, e := bracket.Parse(r.Rest, 0)
	if e != api.OK {
		return tree.Node{}, false
	}
	return r.Past(size, tree.Node{Kind: tree.In, Set: set})
}

// Group reads what pattern reads, between open and shut.
func (r *Reader) Group(open, shut string, pattern func() (tree.Node, bool)) (tree.Node, bool) {
	if r.groups == api.MaxGroups {
		return tree.Node{}, false
	}
	r.groups++
	// Kept, since groups in this one are numbered behind it.
	number := r.groups
	r.Skip(open)
	n, ok := pattern()
	if !ok || !r.Skip(shut) {
		return tree.Node{}, false
	}
	return tree.Node{Kind: tree.Group, N: number, L: []tree.Node{n}}, true
}

// Counted reads a repeat's numbers between open and shut, as a repeat of atom.
func (r *Reader) Counted(open, shut string, atom tree.Node) (tree.Node, bool) {
	inner, rest, closed := strings.Cut(strings.TrimPrefix(r.Rest, open), shut)
	from, to, ok := times(inner)
	if !closed || !ok {
		return tree.Node{}, false
	}
	r.Rest = rest
	return Repeat(from, to, atom), true
}

// Answer is what Parse answers of a pattern of so many bytes that was read as n, if ok holds.
func (r *Reader) Answer(size int, n tree.Node, ok bool) (tree.Node, int, api.Errno) {
	switch {
	// What a right pattern leaves begins with the end of a group that didn't begin.
	case !ok || r.Rest != "":
		return tree.Node{}, size - len(r.Rest), api.ErrPattern
	case r.Full() || !tree.Formed(n):
		return tree.Node{}, size, api.ErrPattern
	}
	return n, 0, api.OK
}

// Repeat is n from so often to so often.
func Repeat(from, to int, n tree.Node) tree.Node {
	return tree.Node{Kind: tree.Repeat, Min: from, Max: to, L: []tree.Node{n}}
}

// times is how often what a repeat's numbers are repeats.
func times(inner string) (from, to int, ok bool) {
	first, second, more := strings.Cut(inner, ",")
	from, ok = number(first)
	switch {
	case !ok:
		return 0, 0, false
	case !more:
		return from, from, true
	case second == "":
		return from, Unbounded, true
	}
	to, ok = number(second)
	return from, to, ok && from <= to
}

// number is digits as a number, which is at most MaxRepeat.
func number(digits string) (int, bool) {
	n := 0
	for _, c := range []byte(digits) {
		if c < '0' || c > '9' {
			return 0, false
		}
		// Once too high it stays so, since many digits would go beyond an int.
		n = min(n*10+int(c-'0'), api.MaxRepeat+1)
	}
	return n, digits != "" && n <= api.MaxRepeat
}
