package tree_test

import (
	"math"
	"math/big"
	"slices"
	"testing"

	"redactor/api"
	"redactor/bracket"
	"redactor/tree"
)

// most is the highest number that Least answers.
const most = 1<<31 - 1

func lit(c byte) tree.Node { return tree.Node{Kind: tree.Lit, C: c} }

func anyByte() tree.Node { return tree.Node{Kind: tree.Any} }

func in(s bracket.Set) tree.Node { return tree.Node{Kind: tree.In, Set: s} }

func begin() tree.Node { return tree.Node{Kind: tree.Begin} }

func end() tree.Node { return tree.Node{Kind: tree.End} }

func group(n int, l ...tree.Node) tree.Node { return tree.Node{Kind: tree.Group, N: n, L: l} }

func back(n int) tree.Node { return tree.Node{Kind: tree.Back, N: n} }

func seq(l ...tree.Node) tree.Node { return tree.Node{Kind: tree.Seq, L: l} }

func alt(l ...tree.Node) tree.Node { return tree.Node{Kind: tree.Alt, L: l} }

func repeat(from, to int, l ...tree.Node) tree.Node {
	return tree.Node{Kind: tree.Repeat, Min: from, Max: to, L: l}
}

// with is n after a change.
func with(n tree.Node, change func(*tree.Node)) tree.Node {
	change(&n)
	return n
}

// often is n so often.
func often(count int, n tree.Node) []tree.Node { return slices.Repeat([]tree.Node{n}, count) }

// under is n with so many groups around it, numbered from the outer one on, from 1.
func under(groups int, n tree.Node) tree.Node {
	for i := groups; i >= 1; i-- {
		n = group(i, n)
	}
	return n
}

// row is a Seq of groups with the numbers from 1 to count, with more nodes behind them.
func row(count int, more ...tree.Node) tree.Node {
	var list []tree.Node
	for i := range count {
		list = append(list, group(i+1, lit('a')))
	}
	return seq(append(list, more...)...)
}

// chain is so many nodes of these kinds by turns, each in the one ahead of it.
func chain(deep int, kinds ...int) tree.Node {
	n := lit('a')
	for i := range deep - 1 {
		n = tree.Node{Kind: kinds[i%len(kinds)], N: 1, Min: 1, Max: 1, L: []tree.Node{n}}
	}
	return n
}

// chosen makes numbers by a plain rule, so that they are the same each time.
func chosen(seed uint64) func(below int) int {
	return func(below int) int {
		seed = seed*6364136223846793005 + 1442695040888963407
		return int(seed >> 33 % uint64(below))
	}
}

// grower makes patterns that are formed, or nearly so.
type grower struct {
	pick   func(below int) int
	begun  int
	behind []int
}

// node is one with at most so many levels, none of these kinds.
func (g *grower) node(levels int, but ...int) tree.Node {
	kinds := []int{tree.Lit, tree.Any, tree.In, tree.Begin, tree.End}
	if len(g.behind) > 0 {
		kinds = append(kinds, tree.Back, tree.Back)
	}
	if levels > 1 {
		kinds = append(kinds, tree.Seq, tree.Seq, tree.Alt, tree.Alt, tree.Repeat, tree.Repeat)
		if g.begun < api.MaxGroups {
			kinds = append(kinds, tree.Group, tree.Group, tree.Group)
		}
	}
	kinds = slices.DeleteFunc(kinds, func(kind int) bool { return slices.Contains(but, kind) })
	switch kind := kinds[g.pick(len(kinds))]; kind {
	case tree.Lit:
		return lit(byte(g.pick(256)))
	case tree.In:
		return in(bracket.Set{}.With(byte(g.pick(256)), byte(g.pick(256))))
	case tree.Back:
		return back(g.behind[g.pick(len(g.behind))])
	case tree.Group:
		g.begun++
		n := group(g.begun, tree.Node{})
		n.L[0] = g.node(levels - 1)
		g.behind = append(g.behind, n.N)
		return n
	case tree.Repeat:
		from := []int{0, 0, 1, 2, api.MaxRepeat, g.pick(api.MaxRepeat + 1)}[g.pick(6)]
		to := []int{-1, from, api.MaxRepeat, from + g.pick(api.MaxRepeat+1-from)}[g.pick(4)]
		return repeat(from, to, g.node(levels-1, tree.Begin, tree.End, tree.Repeat))
	case tree.Seq, tree.Alt:
		n := tree.Node{Kind: kind}
		count := 2 + g.pick(3)
		if kind == tree.Seq && g.pick(6) == 0 {
			count = 0
		}
		for range count {
			n.L = append(n.L, g.node(levels-1, kind))
		}
		return n
	default:
		return tree.Node{Kind: kind}
	}
}

// grown is a formed pattern but, perhaps, for its count of nodes.
func grown(pick func(int) int, levels int) tree.Node {
	g := grower{pick: pick}
	return g.node(levels)
}

// all are places of n and of all nodes in it, in the order in which they stand.
func all(n *tree.Node) []*tree.Node {
	list := []*tree.Node{n}
	for i := range n.L {
		list = append(list, all(&n.L[i])...)
	}
	return list
}

// spoiled is n with one node changed somehow, which may leave it formed.
func spoiled(pick func(int) int, n tree.Node) tree.Node {
	n = deepCopy(n)
	nodes := all(&n)
	p := nodes[pick(len(nodes))]
	switch pick(9) {
	case 0:
		p.Kind = pick(13) - 1
	case 1:
		p.C ^= byte(pick(3))
	case 2:
		p.Set[pick(4)] ^= 1 << pick(64)
	case 3:
		p.N += pick(5) - 2
	case 4:
		p.Min += pick(5) - 2
	case 5:
		p.Max += pick(5) - 2
	case 6:
		p.L = append(p.L, deepCopy(*nodes[pick(len(nodes))]))
	case 7:
		p.L = p.L[:pick(len(p.L)+1)]
	case 8:
		*p = deepCopy(*nodes[pick(len(nodes))])
	}
	return n
}

func deepCopy(n tree.Node) tree.Node {
	n.L = slices.Clone(n.L)
	for i := range n.L {
		n.L[i] = deepCopy(n.L[i])
	}
	return n
}

// wild is a node of any kind with anything in it.
func wild(pick func(int) int, levels int) tree.Node {
	n := tree.Node{Kind: pick(14) - 1, C: byte(pick(2)), N: pick(12) - 1}
	n.Set[pick(4)] = uint64(pick(2))
	times := []int{math.MinInt, -2, -1, 0, 1, 2, 3, 255, 1 << 16, most, math.MaxInt}
	n.Min, n.Max = times[pick(len(times))], times[pick(len(times))]
	if levels > 1 {
		for range pick(5) {
			n.L = append(n.L, wild(pick, levels-1))
		}
	}
	return n
}

// standing is where a node stands in a pattern: its place in the order, the one behind its last node, its depth, and
// the place of the node that it is right in.
type standing struct {
	tree.Node
	at, behind, deep, in int
}

// laid is all nodes of n in the order in which they stand.
func laid(n tree.Node) []standing {
	var list []standing
	var lay func(tree.Node, int, int)
	lay = func(n tree.Node, deep, in int) {
		at := len(list)
		list = append(list, standing{Node: n, at: at, deep: deep, in: in})
		for _, part := range n.L {
			lay(part, deep+1, at)
		}
		list[at].behind = len(list)
	}
	lay(n, 1, -1)
	return list
}

// needs tells what a kind needs: C, Set, N, or Min and Max.
func needs(kind int) (c, set, n, times bool) {
	return kind == tree.Lit, kind == tree.In, kind == tree.Group || kind == tree.Back, kind == tree.Repeat
}

// asDescribed is the first sentence of the chapter on one node, by its fields and how many nodes are right in it.
func asDescribed(n tree.Node) bool {
	c, set, number, times := needs(n.Kind)
	if !c && n.C != 0 || !set && n.Set != (bracket.Set{}) || !number && n.N != 0 || !times && (n.Min != 0 || n.Max != 0) {
		return false
	}
	if n.Kind < 1 || n.Kind > 10 {
		return false
	}
	least := []int{0, 0, 0, 0, 0, 1, 0, 0, 2, 1}[n.Kind-1]
	highest := []int{0, 0, 0, 0, 0, 1, 0, math.MaxInt, math.MaxInt, 1}[n.Kind-1]
	return len(n.L) >= least && len(n.L) <= highest
}

// formed is the chapter's words on it, one after the other over all nodes.
func formed(n tree.Node) bool {
	list := laid(n)
	if len(list) > 200 {
		return false
	}
	var groups []standing
	for _, s := range list {
		if !asDescribed(s.Node) || s.deep > 10 {
			return false
		}
		if s.Kind == tree.Repeat && (s.Min < 0 || s.Min > 255 || s.Max != -1 && (s.Max < s.Min || s.Max > 255)) {
			return false
		}
		if s.Kind == tree.Seq && len(s.L) == 1 {
			return false
		}
		if s.Kind == tree.Group {
			groups = append(groups, s)
		}
		if s.in < 0 {
			continue
		}
		over := list[s.in].Kind
		if (s.Kind == tree.Seq || s.Kind == tree.Alt) && s.Kind == over {
			return false
		}
		if over == tree.Repeat && (s.Kind == tree.Begin || s.Kind == tree.End || s.Kind == tree.Repeat) {
			return false
		}
	}
	for i, g := range groups {
		if g.N != i+1 {
			return false
		}
	}
	for _, s := range list {
		if s.Kind == tree.Back && (s.N < 1 || s.N > len(groups) || groups[s.N-1].behind > s.at) {
			return false
		}
	}
	return len(groups) <= 9
}

// least is the fewest bytes, as high as it may be.
func least(n tree.Node) *big.Int {
	sum := big.NewInt(0)
	switch n.Kind {
	case tree.Lit, tree.Any, tree.In:
		return big.NewInt(1)
	case tree.Group:
		if len(n.L) > 0 {
			return least(n.L[0])
		}
	case tree.Repeat:
		if len(n.L) > 0 && n.Min > 0 {
			return sum.Mul(least(n.L[0]), big.NewInt(int64(n.Min)))
		}
	case tree.Seq:
		for _, part := range n.L {
			sum.Add(sum, least(part))
		}
	case tree.Alt:
		for i, part := range n.L {
			if l := least(part); i == 0 || l.Cmp(sum) < 0 {
				sum = l
			}
		}
	}
	return sum
}

func checkFormed(t *testing.T, n tree.Node) {
	t.Helper()
	if got, want := tree.Formed(n), formed(n); got != want {
		t.Fatalf("Formed is %v of %+v", got, n)
	}
}

// P8.1

func TestFormedOfEachKind(t *testing.T) {
	for i, n := range []tree.Node{
		lit(0), lit('a'), lit(255), anyByte(), in(bracket.Set{}), in(bracket.Set{}.Not()), in(bracket.Set{0, 0, 0, 1}),
		begin(), end(), group(1, lit('a')), group(1, begin()), group(1, seq()), group(1, alt(lit('a'), seq())),
		seq(), seq(lit('a'), anyByte()), seq(begin(), end()), alt(lit('a'), lit('a')), alt(seq(), seq()), alt(begin(), end(), anyByte()),
		repeat(0, -1, lit('a')), repeat(0, 0, anyByte()), repeat(1, 1, in(bracket.Set{})), repeat(2, 3, seq()),
		repeat(0, 1, seq(begin(), end())), repeat(0, 1, alt(begin(), end())), repeat(1, -1, group(1, begin())),
		repeat(0, 1, group(1, repeat(0, 1, lit('a')))), seq(group(1, anyByte()), back(1)), seq(group(1, anyByte()), repeat(2, 2, back(1))),
	} {
		if !tree.Formed(n) {
			t.Errorf("%d isn't formed: %+v", i, n)
		}
	}
}

func TestFormedAsksForKnownKinds(t *testing.T) {
	for _, kind := range []int{0, -1, 11, 12, 257, 1 << 16, math.MaxInt, math.MinInt} {
		for _, list := range [][]tree.Node{nil, {lit('a')}, {lit('a'), lit('b')}} {
			n := tree.Node{Kind: kind, L: list}
			if tree.Formed(n) || tree.Formed(group(1, n)) || tree.Formed(seq(lit('a'), n)) || tree.Formed(repeat(1, 1, n)) {
				t.Errorf("kind %d with %d nodes is formed", kind, len(list))
			}
		}
	}
	if tree.Formed(tree.Node{}) {
		t.Error("a zero node is formed")
	}
}

// someNodes are formed ones of each kind, but a Back, with as few fields as they need.
func someNodes() []tree.Node {
	return []tree.Node{
		lit('a'), anyByte(), in(bracket.Set{1}), begin(), end(), group(1, lit('a')),
		seq(), seq(lit('a'), lit('b')), alt(lit('a'), lit('b')), repeat(0, -1, lit('a')),
	}
}

func TestFormedAsksForZeroFields(t *testing.T) {
	back1 := row(1, back(1))
	for _, n := range append(someNodes(), back(1)) {
		c, set, number, times := needs(n.Kind)
		changes := []struct {
			needed bool
			change func(*tree.Node)
		}{
			{c, func(n *tree.Node) { n.C = 1 }},
			{c, func(n *tree.Node) { n.C = 255 }},
			{set, func(n *tree.Node) { n.Set[0] = 1 }},
			{set, func(n *tree.Node) { n.Set[3] = 1 << 63 }},
			{number, func(n *tree.Node) { n.N = 1 }},
			{false, func(n *tree.Node) { n.N = -1 }},
			{times, func(n *tree.Node) { n.Min = 1 }},
			{times, func(n *tree.Node) { n.Max = 1 }},
			{times, func(n *tree.Node) { n.Max = -1 }},
		}
		for i, x := range changes {
			changed := with(n, x.change)
			if n.Kind == tree.Back {
				changed = seq(back1.L[0], changed)
			}
			if tree.Formed(changed) != x.needed {
				t.Errorf("change %d: %+v", i, changed)
			}
		}
	}
}

func TestFormedAsksForRightCounts(t *testing.T) {
	for _, kind := range []int{tree.Lit, tree.Any, tree.In, tree.Begin, tree.End, tree.Back, tree.Group, tree.Seq, tree.Alt, tree.Repeat} {
		for count := range 5 {
			n := tree.Node{Kind: kind, L: often(count, anyByte())}
			whole := &n
			switch kind {
			case tree.Group:
				n.N = 1
			case tree.Back:
				n.N = 1
				around := row(1, n)
				whole = &around
			}
			want := count == 0
			switch kind {
			case tree.Group, tree.Repeat:
				want = count == 1
			case tree.Seq:
				want = count != 1
			case tree.Alt:
				want = count >= 2
			}
			if tree.Formed(*whole) != want {
				t.Errorf("kind %d with %d nodes: not %v", kind, count, want)
			}
		}
	}
}

func TestFormedCountsNodes(t *testing.T) {
	for _, c := range []struct {
		n    tree.Node
		want bool
	}{
		{seq(often(199, lit('a'))...), true},
		{seq(often(200, lit('a'))...), false},
		{alt(often(199, lit('a'))...), true},
		{alt(often(200, lit('a'))...), false},
		{seq(often(99, repeat(0, 1, lit('a')))...), true},
		{seq(append(often(99, repeat(0, 1, lit('a'))), lit('a'))...), true},
		{seq(often(100, repeat(0, 1, lit('a')))...), false},
		{group(1, seq(often(198, lit('a'))...)), true},
		{group(1, seq(often(199, lit('a'))...)), false},
		{alt(seq(often(98, lit('a'))...), seq(often(99, lit('b'))...)), true},
		{alt(seq(often(99, lit('a'))...), seq(often(99, lit('b'))...)), false},
		{seq(often(100_000, lit('a'))...), false},
	} {
		if got := tree.Formed(c.n); got != c.want || got && tree.Count(c.n) > api.MaxNodes {
			t.Errorf("%v for %d nodes", got, tree.Count(c.n))
		}
	}
}

func TestFormedCountsDepth(t *testing.T) {
	for _, c := range []struct {
		n    tree.Node
		want bool
	}{
		{under(9, lit('a')), true},
		{under(8, repeat(0, 1, lit('a'))), true},
		{under(9, repeat(0, 1, lit('a'))), false},
		{under(8, alt(lit('a'), lit('b'))), true},
		{under(8, alt(lit('a'), seq(lit('b'), lit('c')))), false},
		{under(8, seq(often(9, lit('a'))...)), true},
		{under(9, seq()), true},
		{under(9, seq(lit('a'), lit('b'))), false},
		{seq(lit('x'), under(8, lit('a'))), true},
		{seq(lit('x'), under(9, lit('a'))), false},
		{seq(under(9, lit('a')), lit('x')), false},
		{under(10, lit('a')), false},
		{chain(100, tree.Seq, tree.Alt), false},
	} {
		if got := tree.Formed(c.n); got != c.want {
			t.Errorf("%v for a depth of %d", got, tree.Deep(c.n))
		}
	}
}

func TestFormedBoundsRepeats(t *testing.T) {
	numbers := []int{math.MinInt, -256, -2, -1, 0, 1, 2, 127, 128, 254, 255, 256, 257, 65535, most, math.MaxInt}
	for _, from := range numbers {
		for _, to := range numbers {
			want := from >= 0 && from <= 255 && (to == -1 || to >= from && to <= 255)
			n := repeat(from, to, lit('a'))
			if tree.Formed(n) != want || tree.Formed(alt(lit('b'), group(1, n))) != want {
				t.Errorf("from %d to %d: not %v", from, to, want)
			}
		}
	}
}

func TestFormedNumbersGroups(t *testing.T) {
	a := lit('a')
	for i, n := range []tree.Node{
		row(9), under(9, a), group(1, seq(group(2, a), group(3, a))), seq(group(1, group(2, a)), group(3, a)),
		alt(group(1, a), group(2, a)), seq(repeat(0, -1, group(1, a)), group(2, a)), row(9, back(9), back(1)),
	} {
		if !tree.Formed(n) {
			t.Errorf("%d isn't formed: %+v", i, n)
		}
	}
	for i, n := range []tree.Node{
		row(10), under(10, seq()), group(0, a), group(-1, a), group(2, a), group(9, a), group(10, a), group(257, a),
		group(math.MaxInt, a), group(math.MinInt, a), seq(group(2, a), group(1, a)), seq(group(1, a), group(1, a)), seq(group(1, a), group(3, a)),
		group(2, group(1, a)), group(1, group(1, a)), group(1, seq(group(3, a), group(2, a))), alt(group(1, a), group(1, a)),
		seq(group(1, group(3, a)), group(2, a)), seq(group(0, a), group(1, a)),
	} {
		if tree.Formed(n) {
			t.Errorf("%d is formed: %+v", i, n)
		}
	}
}

func TestFormedAsksForEndedGroups(t *testing.T) {
	a := lit('a')
	for i, n := range []tree.Node{
		seq(group(1, a), back(1)), alt(group(1, a), back(1)), alt(seq(a, group(1, a)), seq(a, back(1))),
		seq(repeat(0, 0, group(1, a)), back(1)), group(1, seq(group(2, a), back(2))), seq(group(1, group(2, a)), back(2), back(1)),
		seq(group(1, a), group(2, back(1)), back(2)), seq(group(1, a), back(1), back(1), group(2, a), back(1), back(2)),
		group(1, seq(group(2, a), group(3, seq(a, back(2))), back(3), back(2))), row(9, back(9)),
	} {
		if !tree.Formed(n) {
			t.Errorf("%d isn't formed: %+v", i, n)
		}
	}
	for i, n := range []tree.Node{
		back(1), back(0), back(-1), group(1, back(1)), group(1, seq(a, back(1))), seq(back(1), group(1, a)), seq(group(1, a), back(2)),
		seq(group(1, a), back(0)), seq(group(1, a), back(-1)), seq(group(1, a), back(2), group(2, a)), group(1, seq(group(2, a), back(1))),
		alt(back(1), group(1, a)), row(9, back(10)), row(9, back(math.MaxInt)), row(9, back(math.MinInt)), row(9, back(257)),
		group(1, seq(group(2, seq(a, back(2))), a)), group(1, seq(group(2, a), repeat(0, 1, back(1)))),
	} {
		if tree.Formed(n) {
			t.Errorf("%d is formed: %+v", i, n)
		}
	}
}

func TestFormedAsksWhatStandsInWhat(t *testing.T) {
	for _, outer := range []int{tree.Group, tree.Seq, tree.Alt, tree.Repeat} {
		for _, inner := range someNodes() {
			n := tree.Node{Kind: outer, L: []tree.Node{inner}}
			switch outer {
			case tree.Group:
				n = group(1, inner)
				if inner.Kind == tree.Group {
					n.L[0] = group(2, lit('a'))
				}
			case tree.Seq, tree.Alt:
				n.L = append(n.L, anyByte())
			}
			want := true
			switch outer {
			case tree.Seq, tree.Alt:
				want = inner.Kind != outer
			case tree.Repeat:
				want = inner.Kind != tree.Begin && inner.Kind != tree.End && inner.Kind != tree.Repeat
			}
			if tree.Formed(n) != want {
				t.Errorf("not %v: %+v", want, n)
			}
			if outer == tree.Seq || outer == tree.Alt {
				slices.Reverse(n.L)
				if tree.Formed(n) != want {
					t.Errorf("at the end, not %v: %+v", want, n)
				}
			}
		}
	}
}

func TestFormedOfPatternsAndOfSpoiledOnes(t *testing.T) {
	pick := chosen(81)
	right, wrong := 0, 0
	for range 20_000 {
		n := grown(pick, 1+pick(8))
		checkFormed(t, n)
		if tree.Formed(n) != (tree.Count(n) <= api.MaxNodes) {
			t.Fatalf("%+v", n)
		}
		for range 1 + pick(2) {
			n = spoiled(pick, n)
		}
		checkFormed(t, n)
		if tree.Formed(n) {
			right++
		} else {
			wrong++
		}
		checkFormed(t, wild(pick, 1+pick(4)))
	}
	if right < 2000 || wrong < 2000 {
		t.Errorf("only %d are formed, %d not", right, wrong)
	}
}

// What is wrong deep within, or at the end of it all, is as wrong as elsewhere.
func TestFormedLooksAtAllNodes(t *testing.T) {
	inner := seq(group(1, alt(lit('a'), repeat(0, 1, group(2, anyByte())))), back(2), group(3, seq()), lit('z'))
	if !tree.Formed(inner) {
		t.Fatal("isn't formed")
	}
	for i := range all(&inner) {
		n := deepCopy(inner)
		all(&n)[i].Kind = 0
		if tree.Formed(n) {
			t.Errorf("node %d isn't looked at", i)
		}
	}
}

// shared is a pattern of 2^levels nodes or more, of two lists a level.
func shared(levels int) tree.Node {
	n := lit('a')
	for i := range levels {
		n = tree.Node{Kind: tree.Seq + i%2, L: []tree.Node{n, n}}
	}
	return n
}

// R1: a pattern without end, or one that is huge, is refused without going through all of it.
func TestFormedOfHugeOnes(t *testing.T) {
	if tree.Formed(shared(200)) {
		t.Error("a pattern of 2^200 nodes is formed")
	}
	for _, kind := range []int{tree.Group, tree.Seq, tree.Alt, tree.Repeat} {
		round := []tree.Node{{Kind: kind, N: 1}, {Kind: tree.Alt + tree.Seq - kind}}
		round[0].L, round[1].L = round, round
		if tree.Formed(round[0]) {
			t.Error("a pattern in itself is formed")
		}
	}
}

func TestCountDeepGroups(t *testing.T) {
	for i, c := range []struct {
		n                   tree.Node
		count, deep, groups int
	}{
		{tree.Node{}, 1, 1, 0},
		{lit('a'), 1, 1, 0},
		{seq(), 1, 1, 0},
		{seq(lit('a'), lit('b')), 3, 2, 0},
		{group(1, lit('a')), 2, 2, 1},
		{back(1), 1, 1, 0},
		{under(9, lit('a')), 10, 10, 9},
		{row(9, back(1)), 20, 3, 9},
		{seq(lit('a'), group(1, repeat(0, 1, lit('b'))), lit('c')), 6, 4, 1},
		{seq(group(1, repeat(0, 1, lit('b'))), lit('c')), 5, 4, 1},
		{tree.Node{Kind: tree.Lit, L: []tree.Node{group(7), group(7), group(0, lit('a'))}}, 5, 3, 3},
		{tree.Node{Kind: 99, N: 6, L: []tree.Node{{Kind: 6}}}, 2, 2, 1},
		{seq(often(1000, group(1))...), 1001, 2, 1000},
		{shared(12), 1<<13 - 1, 13, 0},
	} {
		if count, deep, groups := tree.Count(c.n), tree.Deep(c.n), tree.Groups(c.n); count != c.count || deep != c.deep || groups != c.groups {
			t.Errorf("%d: %d nodes, %d deep, %d groups", i, count, deep, groups)
		}
	}
}

func TestCountDeepGroupsOfMany(t *testing.T) {
	pick := chosen(82)
	for i := range 10_000 {
		n := grown(pick, 1+pick(8))
		if i%2 == 0 {
			n = wild(pick, 1+pick(4))
		}
		list := laid(n)
		deep, groups := 0, 0
		for _, s := range list {
			deep = max(deep, s.deep)
			if s.Kind == tree.Group {
				groups++
			}
		}
		if tree.Count(n) != len(list) || tree.Deep(n) != deep || tree.Groups(n) != groups {
			t.Fatalf("%d, %d, %d: %+v", tree.Count(n), tree.Deep(n), tree.Groups(n), n)
		}
	}
}

func TestLeast(t *testing.T) {
	a := lit('a')
	for i, c := range []struct {
		n    tree.Node
		want int
	}{
		{repeat(2, -1, a), 2}, // the chapter's example
		{a, 1}, {anyByte(), 1}, {in(bracket.Set{}), 1}, {begin(), 0}, {end(), 0}, {seq(), 0},
		{seq(group(1, seq(a, a, a)), back(1)), 3},
		{seq(a, anyByte(), in(bracket.Set{1}), begin(), end()), 3},
		{alt(seq(a, a), a, seq(a, a, a)), 1}, {alt(seq(a, a), seq(a, a)), 2}, {alt(a, seq()), 0}, {alt(seq(), a), 0},
		{repeat(0, 5, a), 0}, {repeat(0, -1, a), 0}, {repeat(3, 5, a), 3}, {repeat(3, 3, group(1, repeat(4, 9, seq(a, a)))), 24},
		{repeat(7, 7, begin()), 0}, {repeat(255, -1, group(1, repeat(255, 255, group(2, repeat(255, 255, a))))), 255 * 255 * 255},
	} {
		if got := tree.Least(c.n); got != c.want {
			t.Errorf("%d: %d, not %d", i, got, c.want)
		}
	}
}

func TestLeastOfWrongOnes(t *testing.T) {
	a := lit('a')
	for i, c := range []struct {
		n    tree.Node
		want int
	}{
		{tree.Node{}, 0}, {tree.Node{L: []tree.Node{a}}, 0}, {tree.Node{Kind: 11, L: []tree.Node{a}}, 0}, {tree.Node{Kind: -1, Min: 5, L: []tree.Node{a}}, 0},
		{tree.Node{Kind: tree.Lit, L: []tree.Node{a, a}}, 1}, {tree.Node{Kind: tree.Any, Min: 3}, 1}, {tree.Node{Kind: tree.In, L: []tree.Node{a, a}}, 1},
		{tree.Node{Kind: tree.Begin, L: []tree.Node{a}}, 0}, {tree.Node{Kind: tree.End, L: []tree.Node{a}}, 0}, {tree.Node{Kind: tree.Back, N: 1, L: []tree.Node{a}}, 0},
		{group(1), 0}, {group(-5, a, a), 1}, {group(1, seq(), a), 0}, {group(1, seq(a, a), a), 2},
		{repeat(3, 3), 0}, {repeat(3, 2, a), 3}, {repeat(3, -7, seq(a, a), a), 6}, {repeat(3, 3, seq(), a), 0},
		{repeat(-1, 5, a), 0}, {repeat(math.MinInt, 5, a), 0}, {repeat(-2, 5, seq(a, a)), 0}, {repeat(1000, 5, a), 1000},
		{alt(), 0}, {alt(seq(a, a)), 2}, {alt(alt(), a), 0}, {seq(a), 1}, {seq(seq(a, a), seq(a)), 3}, {repeat(2, 2, repeat(3, 3, a)), 6},
	} {
		if got := tree.Least(c.n); got != c.want {
			t.Errorf("%d: %d, not %d", i, got, c.want)
		}
	}
}

func TestLeastIsBounded(t *testing.T) {
	a := lit('a')
	full := repeat(most, -1, a)
	for i, c := range []struct {
		n    tree.Node
		want int
	}{
		{full, most}, {repeat(most-1, -1, a), most - 1}, {repeat(most+1, -1, a), most}, {repeat(math.MaxInt, -1, a), most},
		{seq(full, a), most}, {seq(a, full), most}, {seq(full, full, full), most}, {seq(repeat(most-1, -1, a), a), most}, {seq(repeat(most-2, -1, a), a), most - 1},
		{seq(repeat(most-1, -1, a), a, a), most}, {seq(full, full, begin()), most},
		{repeat(2, -1, full), most}, {repeat(math.MaxInt, -1, full), most}, {repeat(1, -1, full), most}, {repeat(0, -1, full), 0}, {repeat(math.MaxInt, -1, seq()), 0},
		{repeat(1<<30, -1, seq(a, a)), most}, {repeat(1<<30-1, -1, seq(a, a)), most - 1}, {repeat(1<<16, -1, repeat(1<<15, -1, a)), most}, {repeat(1<<15, -1, repeat(1<<15, -1, a)), 1 << 30},
		{repeat(1<<62, -1, seq(a, a, a, a)), most}, {repeat(1<<32, -1, repeat(1<<31-1, -1, a)), most}, {repeat(1<<33+1, -1, repeat(1<<31-1, -1, a)), most},
		{repeat(46341, -1, repeat(46341, -1, a)), most}, {repeat(46340, -1, repeat(46341, -1, a)), 46340 * 46341},
		{alt(full, seq(full, a)), most}, {alt(full, a), 1}, {alt(full), most}, {group(1, repeat(1<<40, -1, a)), most},
		{shared(4), 16 / 4},
	} {
		if got := tree.Least(c.n); got != c.want {
			t.Errorf("%d: %d, not %d", i, got, c.want)
		}
	}
}

func TestLeastOfMany(t *testing.T) {
	pick := chosen(83)
	bound := big.NewInt(most)
	bounded := 0
	for i := range 20_000 {
		n := grown(pick, 1+pick(9))
		switch i % 3 {
		case 0:
			n = wild(pick, 1+pick(4))
		case 1:
			for _, p := range all(&n) {
				if p.Kind == tree.Repeat {
					p.Min = 1<<pick(34) - pick(2)
				}
			}
		}
		want := least(n)
		if want.Cmp(bound) > 0 {
			want = bound
			bounded++
		}
		if got := tree.Least(n); int64(got) != want.Int64() {
			t.Fatalf("%d, not %v: %+v", got, want, n)
		}
	}
	if bounded < 50 {
		t.Errorf("only %d are above the bound", bounded)
	}
}

func TestSame(t *testing.T) {
	a, b := lit('a'), lit('b')
	list := []tree.Node{
		{}, a, b, anyByte(), in(bracket.Set{}), in(bracket.Set{1}), in(bracket.Set{0, 1}), in(bracket.Set{0, 0, 1}), in(bracket.Set{0, 0, 0, 1}),
		begin(), end(), group(0), group(1), group(2), group(1, a), group(1, b), group(2, a), group(1, a, a), back(1), back(2), back(-1),
		seq(), seq(a), seq(a, b), seq(b, a), seq(a, a), seq(a, a, a), seq(a, b, a), alt(), alt(a), alt(a, b), alt(b, a),
		repeat(0, 1, a), repeat(0, 2, a), repeat(1, 1, a), repeat(1, 0, a), repeat(0, -1, a), repeat(0, 1, b), repeat(0, 1), repeat(0, 1, a, a),
		seq(seq(a, b)), seq(seq(a), b), seq(a, seq(b)), seq(seq(), seq()), seq(seq()), seq(group(1, alt(a, repeat(0, 1, b)))), seq(group(1, alt(a, repeat(0, 1, a)))),
		{Kind: 99}, {Kind: -1}, {C: 1}, {N: 1}, {N: 257}, {Min: 1}, {Max: 1}, {Set: bracket.Set{1}}, {L: []tree.Node{{}}}, {Kind: tree.Lit, C: 'a', Min: 1}, {Kind: tree.Lit, C: 'a', L: []tree.Node{a}},
	}
	for i, x := range list {
		for j, y := range list {
			if tree.Same(x, deepCopy(y)) != (i == j) {
				t.Errorf("%+v and %+v: not %v", x, y, i == j)
			}
		}
	}
}

func TestSameOfMany(t *testing.T) {
	pick := chosen(84)
	for range 10_000 {
		n := grown(pick, 1+pick(7))
		other := deepCopy(n)
		if !tree.Same(n, n) || !tree.Same(n, other) || !tree.Same(other, n) {
			t.Fatalf("isn't the same as itself: %+v", n)
		}
		nodes := all(&other)
		p := nodes[pick(len(nodes))]
		switch pick(7) {
		case 0:
			p.Kind++
		case 1:
			p.C ^= 1 << pick(8)
		case 2:
			p.Set[pick(4)] ^= 1 << pick(64)
		case 3:
			p.N ^= 1 << pick(63)
		case 4:
			p.Min ^= 1 << pick(63)
		case 5:
			p.Max ^= 1 << pick(63)
		case 6:
			p.L = append(p.L, tree.Node{})
		}
		if tree.Same(n, other) || tree.Same(other, n) {
			t.Fatalf("are the same: %+v and %+v", n, other)
		}
	}
}

// P8.2

func TestJoin(t *testing.T) {
	a, b, c, d := lit('a'), lit('b'), lit('c'), lit('d')
	for i, x := range []struct {
		list []tree.Node
		want tree.Node
	}{
		{nil, seq()},
		{[]tree.Node{a}, a},
		{[]tree.Node{a, b}, seq(a, b)},
		{[]tree.Node{b, a}, seq(b, a)},
		{[]tree.Node{a, a, a}, seq(a, a, a)},
		{[]tree.Node{seq(a, b), c}, seq(a, b, c)},
		{[]tree.Node{a, seq(b, c)}, seq(a, b, c)},
		{[]tree.Node{a, seq(b, c), d}, seq(a, b, c, d)},
		{[]tree.Node{seq(a, b), seq(c, d)}, seq(a, b, c, d)},
		{[]tree.Node{seq(a, b)}, seq(a, b)},
		{[]tree.Node{seq()}, seq()},
		{[]tree.Node{seq(), seq(), seq()}, seq()},
		{[]tree.Node{seq(), c}, c},
		{[]tree.Node{c, seq()}, c},
		{[]tree.Node{seq(a), seq()}, a},
		{[]tree.Node{seq(a), seq(b)}, seq(a, b)},
		{[]tree.Node{alt(a, b)}, alt(a, b)},
		{[]tree.Node{alt(a, b), c}, seq(alt(a, b), c)},
		{[]tree.Node{alt()}, alt()},
		{[]tree.Node{group(1, seq(a, b)), c}, seq(group(1, seq(a, b)), c)},
		{[]tree.Node{repeat(2, 3, seq(a, b))}, repeat(2, 3, seq(a, b))},
		{[]tree.Node{alt(seq(a, b), c), seq(d, alt(c, seq(a, b)))}, seq(alt(seq(a, b), c), d, alt(c, seq(a, b)))},
		// Of list's own Seqs alone.
		{[]tree.Node{seq(a, seq(b, c)), d}, seq(a, seq(b, c), d)},
		{[]tree.Node{seq(seq(a, b))}, seq(a, b)},
		{[]tree.Node{seq(seq(a, b)), c}, seq(seq(a, b), c)},
		{[]tree.Node{seq(seq(seq(a, b)))}, seq(seq(a, b))},
		{[]tree.Node{seq(seq())}, seq()},
		{[]tree.Node{seq(seq()), seq(seq())}, seq(seq(), seq())},
		{[]tree.Node{seq(seq(seq()))}, seq(seq())},
		// Whatever the nodes have in them.
		{[]tree.Node{{}}, tree.Node{}},
		{[]tree.Node{{Kind: 99, C: 1, N: 2, Min: 3, Max: 4}}, tree.Node{Kind: 99, C: 1, N: 2, Min: 3, Max: 4}},
		{[]tree.Node{{}, {}}, seq(tree.Node{}, tree.Node{})},
		{[]tree.Node{{Kind: tree.Seq, C: 5, N: 7, Min: 1, Max: 1, Set: bracket.Set{1}, L: []tree.Node{a, b}}}, seq(a, b)},
		{[]tree.Node{{Kind: tree.Seq, C: 5}}, seq()},
		{[]tree.Node{{Kind: tree.Lit, L: []tree.Node{seq(a)}}}, tree.Node{Kind: tree.Lit, L: []tree.Node{seq(a)}}},
	} {
		if got := tree.Join(x.list); !tree.Same(got, x.want) {
			t.Errorf("%d: %+v", i, got)
		}
	}
}

func TestEither(t *testing.T) {
	a, b, c, d := lit('a'), lit('b'), lit('c'), lit('d')
	for i, x := range []struct {
		list []tree.Node
		want tree.Node
	}{
		{nil, seq()},
		{[]tree.Node{a}, a},
		{[]tree.Node{a, b}, alt(a, b)},
		{[]tree.Node{b, a}, alt(b, a)},
		{[]tree.Node{a, a, a}, alt(a, a, a)},
		{[]tree.Node{alt(a, b), c}, alt(a, b, c)},
		{[]tree.Node{a, alt(b, c)}, alt(a, b, c)},
		{[]tree.Node{a, alt(b, c), d}, alt(a, b, c, d)},
		{[]tree.Node{alt(a, b), alt(c, d)}, alt(a, b, c, d)},
		{[]tree.Node{alt(a, b)}, alt(a, b)},
		{[]tree.Node{alt()}, seq()},
		{[]tree.Node{alt(), alt(), alt()}, seq()},
		{[]tree.Node{alt(), c}, c},
		{[]tree.Node{c, alt()}, c},
		{[]tree.Node{alt(a), alt()}, a},
		{[]tree.Node{alt(a), alt(b)}, alt(a, b)},
		{[]tree.Node{seq()}, seq()},
		{[]tree.Node{seq(), seq()}, alt(seq(), seq())},
		{[]tree.Node{seq(a, b)}, seq(a, b)},
		{[]tree.Node{seq(a, b), c}, alt(seq(a, b), c)},
		{[]tree.Node{a, seq()}, alt(a, seq())},
		{[]tree.Node{alt(), seq()}, seq()},
		{[]tree.Node{group(1, alt(a, b)), c}, alt(group(1, alt(a, b)), c)},
		{[]tree.Node{seq(alt(a, b), c), alt(d, seq(c, alt(a, b)))}, alt(seq(alt(a, b), c), d, seq(c, alt(a, b)))},
		// Of list's own Alts alone.
		{[]tree.Node{alt(a, alt(b, c)), d}, alt(a, alt(b, c), d)},
		{[]tree.Node{alt(alt(a, b))}, alt(a, b)},
		{[]tree.Node{alt(alt(a, b)), c}, alt(alt(a, b), c)},
		{[]tree.Node{alt(alt())}, alt()},
		{[]tree.Node{alt(alt()), alt(alt())}, alt(alt(), alt())},
		{[]tree.Node{alt(alt(alt()))}, alt(alt())},
		// Whatever the nodes have in them.
		{[]tree.Node{{}}, tree.Node{}},
		{[]tree.Node{{}, {}}, alt(tree.Node{}, tree.Node{})},
		{[]tree.Node{{Kind: tree.Alt, C: 5, N: 7, Min: 1, Max: 1, Set: bracket.Set{1}, L: []tree.Node{a, b}}}, alt(a, b)},
		{[]tree.Node{{Kind: tree.Alt, C: 5}}, seq()},
	} {
		if got := tree.Either(x.list); !tree.Same(got, x.want) {
			t.Errorf("%d: %+v", i, got)
		}
	}
}

// flat is what Join and Either put in one node, by another way: from the last one on.
func flat(kind int, list []tree.Node) []tree.Node {
	var out []tree.Node
	for _, n := range slices.Backward(list) {
		in := []tree.Node{n}
		if n.Kind == kind {
			in = n.L
		}
		out = slices.Concat(in, out)
	}
	return out
}

func TestJoinAndEitherOfMany(t *testing.T) {
	pick := chosen(85)
	for range 10_000 {
		var list []tree.Node
		for range pick(5) {
			if pick(3) == 0 {
				list = append(list, wild(pick, 1+pick(3)))
			} else {
				list = append(list, grown(pick, 1+pick(4)))
			}
		}
		joined, either := tree.Node{Kind: tree.Seq, L: flat(tree.Seq, list)}, tree.Node{Kind: tree.Alt, L: flat(tree.Alt, list)}
		if len(joined.L) == 1 {
			joined = joined.L[0]
		}
		switch len(either.L) {
		case 0:
			either = tree.Node{Kind: tree.Seq}
		case 1:
			either = either.L[0]
		}
		if got := tree.Join(list); !tree.Same(got, joined) {
			t.Fatalf("Join: %+v, not %+v", got, joined)
		}
		if got := tree.Either(list); !tree.Same(got, either) {
			t.Fatalf("Either: %+v, not %+v", got, either)
		}
	}
}

// R1 to R4

// roomy is n with every list in a longer one, whose spare room is marked.
func roomy(n tree.Node) tree.Node {
	list := make([]tree.Node, 0, len(n.L)+3)
	for _, part := range n.L {
		list = append(list, roomy(part))
	}
	for i := range 3 {
		list[:cap(list)][len(list)+i] = tree.Node{Kind: 1000 + i}
	}
	n.L = list
	return n
}

// keepsRoom tells whether what roomy marked is as it was.
func keepsRoom(n tree.Node) bool {
	for i := range 3 {
		if n.L[:cap(n.L)][len(n.L)+i].Kind != 1000+i {
			return false
		}
	}
	return !slices.ContainsFunc(n.L, func(part tree.Node) bool { return !keepsRoom(part) })
}

// overwrite changes all that n has, the spare room too, one list at a time, and tells whether no other list changed.
func overwrite(n *tree.Node, mark *int) bool {
	before := deepCopy(*n)
	for i := range n.L {
		if !overwrite(&n.L[i], mark) {
			return false
		}
	}
	for i := range n.L {
		before.L[i] = deepCopy(n.L[i])
	}
	if !tree.Same(before, *n) {
		return false
	}
	list := n.L[:cap(n.L)]
	for i := range list {
		*mark++
		list[i].Kind, list[i].N = 2000, *mark
	}
	for i := range list {
		if list[i].Kind != 2000 || list[i].N != *mark-len(list)+i+1 {
			return false
		}
	}
	return true
}

// marksKept tells whether each list has marks that follow one another, as overwrite has put them.
func marksKept(n tree.Node, seen map[int]int) bool {
	list := n.L[:cap(n.L)]
	for i, part := range list {
		seen[part.N]++
		if part.Kind != 2000 || seen[part.N] > 1 || i > 0 && part.N != list[i-1].N+1 || !marksKept(part, seen) {
			return false
		}
	}
	return true
}

func TestArgumentsAreLeftAndAnswersAreNew(t *testing.T) {
	pick := chosen(86)
	for i := range 4000 {
		var list []tree.Node
		for range pick(5) {
			list = append(list, roomy(grown(pick, 1+pick(4))))
		}
		if len(list) > 0 && i%3 == 0 {
			// One list under several nodes, as a caller may hand in.
			list = append(list, list[0], seq(list...), alt(list...))
		}
		whole := tree.Node{Kind: tree.Seq, L: append(slices.Clone(list), tree.Node{}, tree.Node{})[:len(list)]}
		before := deepCopy(whole)
		for name, call := range map[string]func([]tree.Node) tree.Node{"Join": tree.Join, "Either": tree.Either} {
			got, mark := call(whole.L), 0
			again := deepCopy(got)
			if !overwrite(&got, &mark) || !marksKept(got, map[int]int{}) {
				t.Fatalf("%s: two lists of the answer share memory: %+v", name, again)
			}
			if !tree.Same(whole, before) || !tree.Same(tree.Node{L: whole.L[:len(list)+2]}, tree.Node{L: append(slices.Clone(before.L), tree.Node{}, tree.Node{})}) {
				t.Fatalf("%s: the answer shares memory with what came in: %+v", name, before)
			}
			if !tree.Same(call(whole.L), again) {
				t.Fatalf("%s answers otherwise the second time: %+v", name, again)
			}
		}
	}
}

func TestAnswersStayWhenArgumentsChange(t *testing.T) {
	list := []tree.Node{seq(lit('a'), group(1, lit('b'))), alt(lit('c'), group(2, lit('d')))}
	for name, call := range map[string]func([]tree.Node) tree.Node{"Join": tree.Join, "Either": tree.Either} {
		for count := range len(list) + 1 {
			for from := range len(list) + 1 - count {
				given := deepCopy(tree.Node{L: list[from : from+count]})
				got := call(given.L)
				want := deepCopy(got)
				for _, p := range all(&given) {
					p.C++
				}
				if !tree.Same(got, want) {
					t.Errorf("%s keeps what came in: %+v", name, got)
				}
			}
		}
	}
}

func TestQuestionsLeaveArguments(t *testing.T) {
	pick := chosen(87)
	for range 4000 {
		n := roomy(grown(pick, 1+pick(6)))
		before := deepCopy(n)
		first := []int{tree.Count(n), tree.Deep(n), tree.Groups(n), tree.Least(n)}
		right, same := tree.Formed(n), tree.Same(n, n)
		if !tree.Same(n, before) || !keepsRoom(n) {
			t.Fatalf("is changed: %+v", before)
		}
		second := []int{tree.Count(n), tree.Deep(n), tree.Groups(n), tree.Least(n)}
		if !slices.Equal(first, second) || right != tree.Formed(n) || same != tree.Same(n, n) {
			t.Fatalf("answers otherwise the second time: %+v", before)
		}
		if joined := tree.Join(n.L); !keepsRoom(n) {
			t.Fatalf("Join writes into spare room: %+v", joined)
		}
		if either := tree.Either(n.L); !keepsRoom(n) {
			t.Fatalf("Either writes into spare room: %+v", either)
		}
	}
}

func TestNoNodesAreNilOrEmpty(t *testing.T) {
	empty := []tree.Node{}
	for _, n := range append(someNodes(), tree.Node{}, tree.Node{Kind: tree.Alt}, tree.Node{Kind: tree.Group, N: 1}) {
		if len(n.L) > 0 {
			continue
		}
		other := with(n, func(n *tree.Node) { n.L = empty })
		if !tree.Same(n, other) || !tree.Same(other, n) || !tree.Same(seq(n, n), seq(other, n)) {
			t.Errorf("aren't the same: %+v", n)
		}
		if tree.Formed(n) != tree.Formed(other) || tree.Least(n) != tree.Least(other) || tree.Count(other) != 1 || tree.Deep(other) != 1 {
			t.Errorf("means something else: %+v", n)
		}
		if !tree.Same(tree.Join([]tree.Node{n}), tree.Join([]tree.Node{other})) || !tree.Same(tree.Either([]tree.Node{n}), tree.Either([]tree.Node{other})) {
			t.Errorf("is put in otherwise: %+v", n)
		}
	}
	if !tree.Same(tree.Join(empty), seq()) || !tree.Same(tree.Either(empty), seq()) {
		t.Error("an empty list isn't as none")
	}
}

// As many parts in one another as DOC.md allows, and more.
func TestDeepOnes(t *testing.T) {
	const deep = 1<<16 + 10
	for _, kinds := range [][]int{{tree.Group}, {tree.Seq}, {tree.Alt}, {tree.Repeat}, {tree.Lit}, {tree.Seq, tree.Alt, tree.Group, tree.Repeat}} {
		n := chain(deep, kinds...)
		if tree.Formed(n) || tree.Count(n) != deep || tree.Deep(n) != deep || tree.Least(n) != 1 || !tree.Same(n, deepCopy(n)) {
			t.Errorf("kinds %v", kinds)
		}
		groups := tree.Groups(n)
		if kinds[0] == tree.Group && groups != deep-1 || len(kinds) == 1 && kinds[0] != tree.Group && groups != 0 {
			t.Errorf("kinds %v: %d groups", kinds, groups)
		}
		list := []tree.Node{n, n}
		if tree.Count(tree.Join(list))%2 != 1 || tree.Count(tree.Either(list))%2 != 1 {
			t.Errorf("kinds %v are put together wrongly", kinds)
		}
	}
}
