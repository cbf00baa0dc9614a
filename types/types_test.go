package types_test

import (
	"fmt"
	"math"
	"regexp"
	"slices"
	"strings"
	"sync"
	"testing"

	"cartouche/api"
	"cartouche/types"
)

// A rule says how a node of some kind may be. What the tests ask for is worked out of rules and of a walk down into each node, where the program keeps a list of what is open.
type rule struct {
	names       *regexp.Regexp
	mods        int // the most
	least, most int // kids
	terms       bool
}

var nothing = regexp.MustCompile(`^$`)

var rules = map[api.Kind]rule{
	api.KdBase:  {regexp.MustCompile(`^(bool|int|text|unit)$`), 0, 0, 0, false},
	api.KdNamed: {regexp.MustCompile(`^[a-zA-Z][a-zA-Z0-9_]{0,31}$`), 16, 0, 0, false},
	api.KdTuple: {nothing, 0, 0, math.MaxInt, false},
	api.KdRef:   {nothing, 0, 1, 1, false},
	api.KdFun:   {nothing, 0, 2, 2, true},
}

// mayBe: whether a node may be.
func mayBe(n api.Node) bool {
	r, known := rules[n.Kind]
	return known && r.names.MatchString(n.Name) && 0 <= n.Mod && n.Mod <= r.mods && r.least <= n.Kids && n.Kids <= r.most &&
		(r.terms || n.PC == api.Term{} && n.E == api.Term{})
}

// A shape is what a body's nodes tell: of each, where all that stands below it ends; how deep it goes; or why it may not be.
type shape struct {
	ends []int
	deep int
	e    api.Errno
}

// down goes through the node at some place and all that stands below it, and tells the place behind that.
func (s *shape) down(body []api.Node, at, depth int) int {
	if at == len(body) {
		s.e = api.ErrForm
		return at
	}
	n := body[at]
	if !mayBe(n) {
		s.e = api.ErrForm
	} else if n.Kids > 8 || depth > 16 {
		s.e = api.ErrLimit
	}
	end := at + 1
	for kid := 0; kid < n.Kids && s.e == api.OK; kid++ {
		end = s.down(body, end, depth+1)
	}
	s.deep = max(s.deep, depth)
	s.ends[at] = end
	return end
}

// want: what a body's nodes should tell.
func want(body []api.Node) shape {
	if len(body) == 0 {
		return shape{e: api.ErrArg}
	}
	if len(body) > 128 {
		return shape{e: api.ErrLimit}
	}
	s := shape{ends: make([]int, len(body))}
	if end := s.down(body, 0, 1); s.e == api.OK && end < len(body) {
		s.e = api.ErrForm
	}
	if s.e != api.OK {
		return shape{e: s.e}
	}
	return s
}

// is: faults t, if anything that is told of a body is other than it should be.
func is(t *testing.T, name string, body []api.Node) {
	t.Helper()
	w := want(body)
	if e := types.Check(body); e != w.e {
		t.Fatalf("%s: Check(%v): %v, want %v", name, body, e, w.e)
	}
	if deep := types.Deep(body); deep != w.deep {
		t.Fatalf("%s: Deep(%v): %d, want %d", name, body, deep, w.deep)
	}
	for at := -2; at < len(body)+3; at++ {
		end := 0
		if at >= 0 && at < len(w.ends) {
			end = w.ends[at]
		}
		if g := types.End(body, at); g != end {
			t.Fatalf("%s: End(%v, %d): %d, want %d", name, body, at, g, end)
		}
	}
}

// A tree is a node with those below it.
type tree struct {
	node  api.Node
	below []tree
}

func base(name string) tree { return tree{api.Node{Kind: api.KdBase, Name: name}, nil} }
func named(mod int, name string) tree {
	return tree{api.Node{Kind: api.KdNamed, Mod: mod, Name: name}, nil}
}
func tuple(below ...tree) tree { return tree{api.Node{Kind: api.KdTuple}, below} }
func ref(below tree) tree      { return tree{api.Node{Kind: api.KdRef}, []tree{below}} }
func fun(argument, result tree) tree {
	return tree{api.Node{Kind: api.KdFun}, []tree{argument, result}}
}

// body: the tree's nodes in a row.
func (t tree) body() []api.Node {
	root := t.node
	root.Kids = len(t.below)
	l := []api.Node{root}
	for _, kid := range t.below {
		l = append(l, kid.body()...)
	}
	return l
}

// deep: how many of its nodes stand in one another.
func (t tree) deep() int {
	deepest := 0
	for _, kid := range t.below {
		deepest = max(deepest, kid.deep())
	}
	return deepest + 1
}

// nodes: nodes, each as it is said, in a row.
func nodes(l ...api.Node) []api.Node { return l }

// Nodes, as they stand in a row.
var (
	i0 = api.Node{Kind: api.KdBase, Name: "int"}
	n0 = api.Node{Kind: api.KdNamed, Name: "t", Mod: 1}
	t0 = api.Node{Kind: api.KdTuple}
	t1 = api.Node{Kind: api.KdTuple, Kids: 1}
	t2 = api.Node{Kind: api.KdTuple, Kids: 2}
	t3 = api.Node{Kind: api.KdTuple, Kids: 3}
	t9 = api.Node{Kind: api.KdTuple, Kids: 9}
	r1 = api.Node{Kind: api.KdRef, Kids: 1}
	f2 = api.Node{Kind: api.KdFun, Kids: 2}
	no = api.Node{}
)

// terms: the zero term, and such as are not.
func terms() []api.Term {
	return []api.Term{{}, {N: 1}, {Var: true}, {Var: true, N: 7}, {N: math.MaxUint64}}
}

// chain: as many nodes, each below the one ahead of it, by what wraps them; the last one is an int.
func chain(count int, wrap func(tree) tree) tree {
	t := base("int")
	for range count - 1 {
		t = wrap(t)
	}
	return t
}

// wraps: ways to put a tree below a node, one deeper, at each place that there is.
func wraps() []func(tree) tree {
	i := base("int")
	return []func(tree) tree{
		ref,
		func(t tree) tree { return tuple(t) },
		func(t tree) tree { return fun(t, i) },
		func(t tree) tree { return fun(i, t) },
		func(t tree) tree { return tuple(t, ref(i), i) },
		func(t tree) tree { return tuple(ref(ref(i)), t, i) },
		func(t tree) tree { return tuple(i, ref(i), t) },
	}
}

// wide: a tree of as many nodes, no deeper than it need be.
func wide(count int) tree {
	var below []tree
	for left := count - 1; left > 0; {
		kid := (left + 7 - len(below)) / (8 - len(below))
		below = append(below, wide(kid))
		left -= kid
	}
	return tuple(below...)
}

// A source tells numbers with no rule to be seen in them, the same ones each time.
type source uint64

// below: the next one, below n.
func (s *source) below(n int) int {
	*s = *s*6364136223846793005 + 1442695040888963407
	return int(*s >> 33 % source(n))
}

// anyTree: a tree that may be, with terms where they may stand.
func (s *source) anyTree(depth int) tree {
	var t tree
	switch kind := s.below(9); {
	case kind < 2 || depth < 2:
		t = base([]string{"bool", "int", "text", "unit"}[s.below(4)])
	case kind < 4:
		t = named(s.below(17), strings.Repeat("aZ_9"[:1+s.below(4)], 1+s.below(8)))
	case kind < 6:
		t = tuple()
		for range s.below(9) {
			t.below = append(t.below, s.anyTree(depth-1))
		}
	case kind < 7:
		t = ref(s.anyTree(depth - 1))
	default:
		t = fun(s.anyTree(depth-1), s.anyTree(depth-1))
		t.node.PC, t.node.E = terms()[s.below(5)], terms()[s.below(5)]
	}
	t.node.L = terms()[s.below(5)]
	return t
}

// bodies: bodies that may be: of each kind; of each count of nodes, and of each depth, that may be; some with no rule to be seen.
func bodies() [][]api.Node {
	i := base("int")
	all := [][]api.Node{
		i.body(), base("bool").body(), base("text").body(), base("unit").body(), named(0, "a").body(), named(16, strings.Repeat("Z", 32)).body(),
		tuple().body(), ref(i).body(), fun(i, i).body(), ref(fun(tuple(i, ref(tuple())), named(3, "q_9"))).body(),
	}
	for count := 1; count <= 128; count++ {
		all = append(all, wide(count).body())
	}
	for _, wrap := range wraps() {
		for count := 2; count <= 16; count++ {
			// Beside the chain's last node some ways lay one that is deeper.
			if t := chain(count, wrap); t.deep() <= 16 {
				all = append(all, t.body())
			}
		}
	}
	s := source(7)
	for len(all) < 700 {
		if body := s.anyTree(2 + s.below(8)).body(); len(body) <= 128 && len(body) > 3 {
			all = append(all, body)
		}
	}
	return all
}

func TestExamples(t *testing.T) {
	for i, c := range []struct {
		body []api.Node
		want api.Errno
	}{
		{nodes(i0), api.OK},
		{nodes(f2, i0, i0), api.OK},
		{nodes(f2, i0), api.ErrForm},
		{nodes(i0, i0), api.ErrForm},
		{nil, api.ErrArg},
	} {
		if e := types.Check(c.body); e != c.want {
			t.Errorf("Check, example %d: %v, want %v", i, e, c.want)
		}
	}
	if deep, end := types.Deep(nodes(f2, i0, i0)), types.End(nodes(f2, i0, i0), 1); deep != 2 || end != 2 {
		t.Errorf("Deep(F I I), End(F I I, 1): %d, %d", deep, end)
	}
	if !types.Same(nodes(f2, i0, i0), nodes(f2, i0, i0)) || types.Same(nodes(i0), nodes(f2, i0, i0)) {
		t.Error("Same(F I I, F I I), Same(I, F I I)")
	}
}

// P7.1

func TestCheckOfHowManyNodesThereAre(t *testing.T) {
	for count := 1; count <= api.MaxNodes; count++ {
		body := wide(count).body()
		if len(body) != count || types.Check(body) != api.OK {
			t.Fatalf("Check of %d nodes (%d): %v", count, len(body), types.Check(body))
		}
	}
	for count := api.MaxNodes + 1; count < 400; count++ {
		for name, body := range map[string][]api.Node{
			"that may be":                 wide(count).body(),
			"that may not be":             make([]api.Node, count),
			"behind one without any":      slices.Repeat(nodes(i0), count),
			"of which ever more are open": slices.Repeat(nodes(f2), count),
		} {
			if e := types.Check(body); e != api.ErrLimit {
				t.Errorf("Check of %d nodes %s: %v", count, name, e)
			}
		}
	}
}

// TestCheckOfWrittenNodes: one node alone, and what else it needs.
func TestCheckOfWrittenNodes(t *testing.T) {
	const most = 32
	one, five := api.Term{Var: true}, api.Term{N: 5}
	long := strings.Repeat("a", most)
	for _, c := range []struct {
		why  string
		node api.Node
		want api.Errno
	}{
		{"nothing", api.Node{}, api.ErrForm},
		{"no kind, but a name", api.Node{Name: "int"}, api.ErrForm},
		{"a kind behind the last one", api.Node{Kind: 6}, api.ErrForm},
		{"the last kind that there could be", api.Node{Kind: 255, Name: "int"}, api.ErrForm},

		{"bool", api.Node{Kind: api.KdBase, Name: "bool"}, api.OK},
		{"int", api.Node{Kind: api.KdBase, Name: "int"}, api.OK},
		{"text", api.Node{Kind: api.KdBase, Name: "text"}, api.OK},
		{"unit", api.Node{Kind: api.KdBase, Name: "unit"}, api.OK},
		{"a base with a label", api.Node{Kind: api.KdBase, Name: "int", L: five}, api.OK},
		{"a base with a variable for its label", api.Node{Kind: api.KdBase, Name: "int", L: one}, api.OK},
		{"a base without a name", api.Node{Kind: api.KdBase}, api.ErrForm},
		{"a base of another name", api.Node{Kind: api.KdBase, Name: "nat"}, api.ErrForm},
		{"a base of a great letter", api.Node{Kind: api.KdBase, Name: "Int"}, api.ErrForm},
		{"a base of a base's beginning", api.Node{Kind: api.KdBase, Name: "in"}, api.ErrForm},
		{"a base of more than a base", api.Node{Kind: api.KdBase, Name: "ints"}, api.ErrForm},
		{"a base of an import", api.Node{Kind: api.KdBase, Name: "int", Mod: 1}, api.ErrForm},
		{"a base of a negative import", api.Node{Kind: api.KdBase, Name: "int", Mod: -1}, api.ErrForm},
		{"a base with one below", api.Node{Kind: api.KdBase, Name: "int", Kids: 1}, api.ErrForm},
		{"a base with a negative count below", api.Node{Kind: api.KdBase, Name: "int", Kids: -1}, api.ErrForm},
		{"a base with a PC", api.Node{Kind: api.KdBase, Name: "int", PC: five}, api.ErrForm},
		{"a base with an effect", api.Node{Kind: api.KdBase, Name: "int", E: five}, api.ErrForm},

		{"a named one", api.Node{Kind: api.KdNamed, Name: "t"}, api.OK},
		{"a named one of a base's name", api.Node{Kind: api.KdNamed, Name: "int"}, api.OK},
		{"a named one of a great letter", api.Node{Kind: api.KdNamed, Name: "Z"}, api.OK},
		{"a named one of all sorts of bytes", api.Node{Kind: api.KdNamed, Name: "a_Z0z9_A"}, api.OK},
		{"a named one of the longest name", api.Node{Kind: api.KdNamed, Name: long}, api.OK},
		{"a named one of the last import", api.Node{Kind: api.KdNamed, Name: "t", Mod: 16}, api.OK},
		{"a named one with a label", api.Node{Kind: api.KdNamed, Name: "t", L: one}, api.OK},
		{"a named one without a name", api.Node{Kind: api.KdNamed}, api.ErrForm},
		{"a named one of too long a name", api.Node{Kind: api.KdNamed, Name: long + "a"}, api.ErrForm},
		{"a named one that begins with a digit", api.Node{Kind: api.KdNamed, Name: "1a"}, api.ErrForm},
		{"a named one that begins with _", api.Node{Kind: api.KdNamed, Name: "_a"}, api.ErrForm},
		{"a named one with a mark", api.Node{Kind: api.KdNamed, Name: "a-b"}, api.ErrForm},
		{"a named one with a space", api.Node{Kind: api.KdNamed, Name: "a "}, api.ErrForm},
		{"a named one with a letter of two bytes", api.Node{Kind: api.KdNamed, Name: "a\u00e9"}, api.ErrForm},
		{"a named one behind the last import", api.Node{Kind: api.KdNamed, Name: "t", Mod: 17}, api.ErrForm},
		{"a named one of a negative import", api.Node{Kind: api.KdNamed, Name: "t", Mod: -1}, api.ErrForm},
		{"a named one with one below", api.Node{Kind: api.KdNamed, Name: "t", Kids: 1}, api.ErrForm},
		{"a named one with a PC", api.Node{Kind: api.KdNamed, Name: "t", PC: one}, api.ErrForm},
		{"a named one with an effect", api.Node{Kind: api.KdNamed, Name: "t", E: one}, api.ErrForm},

		{"a tuple of none", api.Node{Kind: api.KdTuple}, api.OK},
		{"a tuple of one", api.Node{Kind: api.KdTuple, Kids: 1}, api.OK},
		{"a tuple of as many as may be", api.Node{Kind: api.KdTuple, Kids: 8}, api.OK},
		{"a tuple with a label", api.Node{Kind: api.KdTuple, Kids: 2, L: five}, api.OK},
		{"a tuple of one more", api.Node{Kind: api.KdTuple, Kids: 9}, api.ErrLimit},
		{"a tuple of as many as an int can be", api.Node{Kind: api.KdTuple, Kids: math.MaxInt}, api.ErrLimit},
		{"a tuple of a negative count", api.Node{Kind: api.KdTuple, Kids: -1}, api.ErrForm},
		{"a tuple of the least int", api.Node{Kind: api.KdTuple, Kids: math.MinInt}, api.ErrForm},
		{"a tuple with a name", api.Node{Kind: api.KdTuple, Name: "t"}, api.ErrForm},
		{"a tuple of an import", api.Node{Kind: api.KdTuple, Mod: 1}, api.ErrForm},
		{"a tuple of a negative import", api.Node{Kind: api.KdTuple, Mod: -1}, api.ErrForm},
		{"a tuple with a PC", api.Node{Kind: api.KdTuple, PC: one}, api.ErrForm},
		{"a tuple with an effect", api.Node{Kind: api.KdTuple, E: five}, api.ErrForm},

		{"a ref", api.Node{Kind: api.KdRef, Kids: 1}, api.OK},
		{"a ref with a label", api.Node{Kind: api.KdRef, Kids: 1, L: one}, api.OK},
		{"a ref of none", api.Node{Kind: api.KdRef}, api.ErrForm},
		{"a ref of two", api.Node{Kind: api.KdRef, Kids: 2}, api.ErrForm},
		{"a ref of a negative count", api.Node{Kind: api.KdRef, Kids: -1}, api.ErrForm},
		{"a ref of more than may be", api.Node{Kind: api.KdRef, Kids: 9}, api.ErrForm},
		{"a ref with a name", api.Node{Kind: api.KdRef, Kids: 1, Name: "r"}, api.ErrForm},
		{"a ref of an import", api.Node{Kind: api.KdRef, Kids: 1, Mod: 1}, api.ErrForm},
		{"a ref with a PC", api.Node{Kind: api.KdRef, Kids: 1, PC: five}, api.ErrForm},
		{"a ref with an effect", api.Node{Kind: api.KdRef, Kids: 1, E: one}, api.ErrForm},

		{"a function", api.Node{Kind: api.KdFun, Kids: 2}, api.OK},
		{"a function with all terms", api.Node{Kind: api.KdFun, Kids: 2, L: one, PC: five, E: one}, api.OK},
		{"a function of none", api.Node{Kind: api.KdFun}, api.ErrForm},
		{"a function of one", api.Node{Kind: api.KdFun, Kids: 1}, api.ErrForm},
		{"a function of three", api.Node{Kind: api.KdFun, Kids: 3}, api.ErrForm},
		{"a function of more than may be", api.Node{Kind: api.KdFun, Kids: 9}, api.ErrForm},
		{"a function of a negative count", api.Node{Kind: api.KdFun, Kids: -2}, api.ErrForm},
		{"a function with a name", api.Node{Kind: api.KdFun, Kids: 2, Name: "f"}, api.ErrForm},
		{"a function of an import", api.Node{Kind: api.KdFun, Kids: 2, Mod: 16}, api.ErrForm},
	} {
		if e := types.Check(withInts(c.node)); e != c.want {
			t.Errorf("Check of %s: %v, want %v", c.why, e, c.want)
		}
		is(t, c.why, withInts(c.node))
	}
}

// withInts: a node and as many ints as stand below it, if no more do than may.
func withInts(n api.Node) []api.Node {
	body := nodes(n)
	if n.Kids >= 0 && n.Kids < 20 {
		body = append(body, slices.Repeat(nodes(i0), n.Kids)...)
	}
	return body
}

// TestCheckOfAllFields: of each kind each field as it may be, and as it may not, in all ways together; as the root, and below it.
func TestCheckOfAllFields(t *testing.T) {
	names := []string{"", "bool", "int", "unit", "a", "Int", "1a", "_a", "a-b", "\x00", "\u00e9", strings.Repeat("a", 32), strings.Repeat("a", 33)}
	mods := []int{0, -1, 1, 16, 17, math.MinInt, math.MaxInt}
	kids := []int{0, -1, 1, 2, 3, 8, 9, 10, math.MinInt, math.MaxInt}
	own := []api.Term{{}, {N: 1}, {Var: true}}
	seen := map[api.Errno]int{}
	for _, kind := range []api.Kind{0, 1, 2, 3, 4, 5, 6, 7, 128, 255} {
		for i, name := range names {
			for _, mod := range mods {
				for _, count := range kids {
					for j, pc := range own {
						for k, e := range own {
							n := api.Node{Kind: kind, Name: name, Mod: mod, Kids: count, L: own[(i+j+k)%3], PC: pc, E: e}
							body := withInts(n)
							w := api.OK
							if !mayBe(n) {
								w = api.ErrForm
							} else if count > 8 {
								w = api.ErrLimit
							}
							seen[w]++
							if g := types.Check(body); g != w {
								t.Fatalf("Check of %v: %v, want %v", n, g, w)
							}
							if g := types.Check(append(nodes(t3, i0, r1, i0), body...)); g != w {
								t.Fatalf("Check of %v below a tuple: %v, want %v", n, g, w)
							}
						}
					}
				}
			}
		}
	}
	for _, e := range []api.Errno{api.OK, api.ErrForm, api.ErrLimit} {
		if seen[e] == 0 {
			t.Errorf("no nodes were such that Check should answer %v", e)
		}
	}
}

// TestCheckOfNames: of each length; with each byte at each place; and a base's names with each byte at each place.
func TestCheckOfNames(t *testing.T) {
	for length := range 300 {
		w := api.OK
		if length < 1 || length > api.MaxName {
			w = api.ErrForm
		}
		if e := types.Check(named(0, strings.Repeat("b", length)).body()); e != w {
			t.Errorf("Check of a name of %d bytes: %v, want %v", length, e, w)
		}
	}
	for _, length := range []int{1, 2, 5, 31, 32} {
		for at := range length {
			for c := range 256 {
				name := []byte(strings.Repeat("q", length))
				name[at] = byte(c)
				is(t, "another byte in a name", named(2, string(name)).body())
			}
		}
	}
	for _, name := range []string{"bool", "int", "text", "unit"} {
		for at := range len(name) {
			for c := range 256 {
				other := []byte(name)
				other[at] = byte(c)
				is(t, "another byte in a base", base(string(other)).body())
				is(t, "a byte more in a base", base(name[:at]+string(other[at:at+1])+name[at:]).body())
			}
			is(t, "a base cut off", base(name[:at]).body())
			is(t, "a base's end", base(name[at:]).body())
		}
		is(t, "a base and more", base(name+"s").body())
		is(t, "a base and nought", base(name+"\x00").body())
	}
	for _, name := range strings.Fields("ref fun tuple named base none string nat integer boolean float real byte char list any void label effect var t BOOL Bool INT TEXT UNIT Unit boolint int_ _int 1") {
		if e := types.Check(base(name).body()); e != api.ErrForm {
			t.Errorf("Check of the base %s: %v", name, e)
		}
	}
}

func TestCheckOfDepth(t *testing.T) {
	for i, wrap := range wraps() {
		for count := 1; count <= 25; count++ {
			top := chain(count, wrap)
			w, deep := api.OK, top.deep()
			if deep > api.MaxDepth {
				w, deep = api.ErrLimit, 0
			}
			body := top.body()
			if e := types.Check(body); e != w || types.Deep(body) != deep {
				t.Errorf("chain %d of %d: Check, Deep: %v, %d, want %v, %d", i, count, e, types.Deep(body), w, deep)
			}
			is(t, "a chain", body)
		}
	}
	for depth, w := range map[int]api.Errno{15: api.OK, 16: api.OK, 17: api.ErrLimit, 18: api.ErrLimit, 128: api.ErrLimit} {
		if e := types.Check(chain(depth, ref).body()); e != w {
			t.Errorf("Check of a ref of a ref .., %d deep: %v, want %v", depth, e, w)
		}
	}
}

// TestCheckOfNodesThatAreMissingAndOnesBehind: bodies that end too early, or too late.
func TestCheckOfNodesThatAreMissingAndOnesBehind(t *testing.T) {
	for _, body := range bodies() {
		if e := types.Check(body); e != api.OK {
			t.Fatalf("Check(%v): %v", body, e)
		}
		for end := 1; end < len(body); end++ {
			if e := types.Check(body[:end]); e != api.ErrForm {
				t.Fatalf("Check of %d of %v: %v", end, body, e)
			}
		}
		for _, more := range [][]api.Node{{i0}, {t0}, {no}, {t9}, {f2, i0, i0}, body} {
			w := api.ErrForm
			if len(body)+len(more) > api.MaxNodes {
				w = api.ErrLimit
			}
			if e := types.Check(slices.Concat(body, more)); e != w {
				t.Fatalf("Check of %v behind %v: %v, want %v", more, body, e, w)
			}
		}
	}
}

func TestWhichErrorIsToldFirst(t *testing.T) {
	refs := func(count int, behind ...api.Node) []api.Node {
		return append(slices.Repeat(nodes(r1), count), behind...)
	}
	bad := api.Node{Kind: api.KdTuple, Kids: 9, Name: "t"}
	for _, c := range []struct {
		why  string
		body []api.Node
		want api.Errno
	}{
		{"too many nodes, the first of which may not be", append(nodes(no), slices.Repeat(nodes(i0), 128)...), api.ErrLimit},
		{"too many nodes, and ones behind the root", slices.Repeat(nodes(i0), 129), api.ErrLimit},
		{"as many nodes as may be, behind the root", slices.Repeat(nodes(i0), 128), api.ErrForm},
		{"a node that may not be, and has too many below it", nodes(bad), api.ErrForm},
		{"a ref with too many below it", nodes(api.Node{Kind: api.KdRef, Kids: 9}), api.ErrForm},
		{"too many below, which are missing", nodes(t9), api.ErrLimit},
		{"too many below, one of which may not be", nodes(t9, no), api.ErrLimit},
		{"too many below, all there, and one behind", append(withInts(t9), i0), api.ErrLimit},
		{"too many below, behind one that may not be", nodes(t2, no, t9), api.ErrForm},
		{"one that may not be, behind too many below", nodes(t2, t9, no), api.ErrLimit},
		{"too many below, in a body in which others are missing", nodes(t3, i0, t9), api.ErrLimit},
		{"too many below, behind the root", nodes(i0, t9), api.ErrForm},
		{"too deep, and may not be", refs(16, no), api.ErrForm},
		{"too deep, and too many below it", refs(16, t9), api.ErrLimit},
		{"too deep, and nodes missing", refs(17), api.ErrLimit},
		{"not too deep, and nodes missing", refs(16), api.ErrForm},
		{"too deep, behind one that may not be", append(nodes(t2, no), refs(16)...), api.ErrForm},
		{"one that may not be, behind one too deep", append(nodes(t2), refs(16, no)...), api.ErrLimit},
		{"one that may not be, behind as deep as may be", append(nodes(t2), refs(14, i0, no)...), api.ErrForm},
		{"one behind the root, behind one too deep", refs(16, i0, i0), api.ErrLimit},
		{"one behind the root, behind as deep as may be", refs(15, i0, i0), api.ErrForm},
		{"so many behind the root that it seems too deep", append(nodes(i0), refs(17)...), api.ErrForm},
	} {
		if e := types.Check(c.body); e != c.want {
			t.Errorf("Check of %s: %v, want %v", c.why, e, c.want)
		}
		is(t, c.why, c.body)
	}
}

// rowsOf: tells each row of up to most of these nodes.
func rowsOf(most int, of []api.Node, tell func(body []api.Node)) {
	var body []api.Node
	var longer func(left int)
	longer = func(left int) {
		tell(body)
		for _, n := range of {
			if left > 0 {
				body = append(body, n)
				longer(left - 1)
				body = body[:len(body)-1]
			}
		}
	}
	longer(most)
}

// P7.1, P7.2

// TestAllShortRows: of nodes that may be, that may not, and that are too many.
func TestAllShortRows(t *testing.T) {
	seen := map[api.Errno]int{}
	try := func(body []api.Node) {
		seen[want(body).e]++
		is(t, "a short row", body)
	}
	rowsOf(4, nodes(i0, n0, t0, t1, t2, t3, r1, f2, t9, no), try)
	rowsOf(8, nodes(i0, t2, r1), try)
	for _, e := range []api.Errno{api.OK, api.ErrArg, api.ErrForm, api.ErrLimit} {
		if seen[e] == 0 {
			t.Errorf("no rows were such that Check should answer %v", e)
		}
	}
}

// TestAFaultAnywhere: one field of one node of a body is another one.
func TestAFaultAnywhere(t *testing.T) {
	s := source(3)
	for _, body := range bodies() {
		is(t, "a body", body)
		for range 20 {
			at := s.below(len(body))
			other := slices.Clone(body)
			n := &other[at]
			switch s.below(7) {
			case 0:
				n.Kind = api.Kind(s.below(7))
			case 1:
				n.Kids += s.below(20) - 3
			case 2:
				n.Mod += s.below(20) - 2
			case 3:
				n.Name += []string{"", "a", "-", strings.Repeat("x", 30)}[s.below(4)]
			case 4:
				n.PC = terms()[s.below(5)]
			case 5:
				n.E = terms()[s.below(5)]
			case 6:
				n.L = terms()[s.below(5)]
			}
			is(t, "a body with a fault", other)
		}
	}
}

// P7.2

func TestEndAndDeepOfWrittenBodies(t *testing.T) {
	for _, c := range []struct {
		body []api.Node
		ends []int
		deep int
	}{
		{nodes(i0), []int{1}, 1},
		{nodes(t0), []int{1}, 1},
		{nodes(r1, i0), []int{2, 2}, 2},
		{nodes(f2, i0, i0), []int{3, 2, 3}, 2},
		{nodes(t3, i0, i0, i0), []int{4, 2, 3, 4}, 2},
		{nodes(t3, t0, r1, t0, t1, n0), []int{6, 2, 4, 4, 6, 6}, 3},
		{nodes(f2, f2, i0, f2, i0, i0, i0), []int{7, 6, 3, 6, 5, 6, 7}, 4},
		{nodes(r1, r1, r1, i0), []int{4, 4, 4, 4}, 4},
		// The deepest one stands ahead of the last one, behind the first one, at the end.
		{nodes(t2, r1, r1, i0, i0), []int{5, 4, 4, 4, 5}, 4},
		{nodes(t3, i0, r1, i0, i0), []int{5, 2, 4, 4, 5}, 3},
		{nodes(t2, i0, r1, r1, i0), []int{5, 2, 5, 5, 5}, 4},
	} {
		if deep := types.Deep(c.body); deep != c.deep {
			t.Errorf("Deep(%v): %d, want %d", c.body, deep, c.deep)
		}
		for at, end := range c.ends {
			if g := types.End(c.body, at); g != end {
				t.Errorf("End(%v, %d): %d, want %d", c.body, at, g, end)
			}
		}
	}
}

// TestEndAndDeepOfTrees: a node ends behind as many nodes as its tree has.
func TestEndAndDeepOfTrees(t *testing.T) {
	s := source(11)
	for range 500 {
		top := s.anyTree(2 + s.below(6))
		body := top.body()
		if len(body) > api.MaxNodes {
			continue
		}
		var walk func(sub tree, at int) (deep int)
		walk = func(sub tree, at int) (deep int) {
			if end := types.End(body, at); end != at+len(sub.body()) {
				t.Fatalf("End(%v, %d): %d, want %d", body, at, end, at+len(sub.body()))
			}
			at++
			for _, kid := range sub.below {
				deep = max(deep, walk(kid, at))
				at += len(kid.body())
			}
			return deep + 1
		}
		if deep := walk(top, 0); types.Deep(body) != deep {
			t.Fatalf("Deep(%v): %d, want %d", body, types.Deep(body), deep)
		}
	}
}

// noPlaces: where no node of a row of so many stands; cut to fewer bits some would be places.
func noPlaces(count int) []int {
	l := []int{-1, -2, -count, -count - 1, -128, count, count + 1, 2 * count, 128, 129, math.MinInt, math.MinInt + 1, math.MaxInt, math.MaxInt - 1}
	for _, power := range []int{1 << 8, 1 << 16, 1 << 32} {
		l = append(l, power, -power, power-1, 1-power)
	}
	return slices.DeleteFunc(l, func(at int) bool { return at >= 0 && at < count })
}

func TestEndOfNoNode(t *testing.T) {
	for _, body := range bodies() {
		for _, at := range noPlaces(len(body)) {
			if end := types.End(body, at); end != 0 {
				t.Fatalf("End(%v, %d): %d", body, at, end)
			}
		}
	}
}

// notBodies: rows of nodes that are no body: for each reason that there is, the fault at the beginning and at the end.
func notBodies() [][]api.Node {
	all := [][]api.Node{
		nil, {}, {no}, {t9}, {r1}, {f2, i0}, {i0, i0}, {t2, i0, no}, {t2, i0, t9}, {t2, no, i0}, {t3, i0, i0},
		{{Kind: api.KdTuple, Kids: -1}}, {{Kind: api.KdTuple, Kids: math.MinInt}}, {{Kind: api.KdTuple, Kids: math.MaxInt}}, {{Kind: api.KdRef, Kids: -1}, i0},
		{f2, i0, i0, i0}, {t2, i0, i0, r1}, withInts(t9), chain(17, ref).body(), chain(18, func(t tree) tree { return tuple(base("int"), t) }).body(),
		wide(129).body(), slices.Repeat(nodes(i0), 128), slices.Repeat(nodes(r1), 128), slices.Repeat(nodes(f2), 129), make([]api.Node, 1000),
	}
	return append(all, wide(128).body()[:127], append(wide(127).body(), no), append(wide(128).body(), i0))
}

func TestEndAndDeepOfWhatMayNotBe(t *testing.T) {
	for _, body := range notBodies() {
		if types.Check(body) == api.OK {
			t.Fatalf("Check(%v): OK", body)
		}
		if deep := types.Deep(body); deep != 0 {
			t.Errorf("Deep(%v): %d", body, deep)
		}
		for at := -3; at < len(body)+3; at++ {
			if end := types.End(body, at); end != 0 {
				t.Errorf("End(%v, %d): %d", body, at, end)
			}
		}
		for _, at := range noPlaces(len(body)) {
			if end := types.End(body, at); end != 0 {
				t.Errorf("End(%v, %d): %d", body, at, end)
			}
		}
	}
}

// P7.3

// same: whether two rows are the same, each node laid out as a text.
func same(a, b []api.Node) bool {
	laid := func(l []api.Node) string {
		var all strings.Builder
		for _, n := range l {
			fmt.Fprintf(&all, "%d %d %q %d;", n.Kind, n.Mod, n.Name, n.Kids)
		}
		return all.String()
	}
	return laid(a) == laid(b)
}

func TestSameOfWrittenRows(t *testing.T) {
	label := i0
	label.L = api.Term{Var: true, N: 3}
	for _, c := range []struct {
		a, b []api.Node
		want bool
	}{
		{nil, nil, true},
		{nil, nodes(i0), false},
		{nodes(no), nil, false},
		{nodes(i0), nodes(i0), true},
		{nodes(i0), nodes(label), true},
		{nodes(i0), nodes(n0), false},
		{nodes(i0), nodes(i0, i0), false},
		{nodes(i0, i0), nodes(i0), false},
		{nodes(f2, i0, t0), nodes(f2, t0, i0), false},
		{nodes(f2, i0, i0), nodes(t2, i0, i0), false},
		{nodes(r1, i0), nodes(t1, i0), false},
		{tuple(tuple(base("int")), tuple()).body(), tuple(tuple(), tuple(base("int"))).body(), false},
		{named(0, "int").body(), base("int").body(), false},
		{named(0, "t").body(), named(1, "t").body(), false},
		{named(1, "t").body(), named(1, "T").body(), false},
		{base("text").body(), base("unit").body(), false},
		// Of what may not be it is told as well.
		{nodes(no), nodes(no), true},
		{nodes(no, t9, f2), nodes(no, t9, f2), true},
		{nodes(no), nodes(api.Node{Kind: 255}), false},
		{nodes(t9), nodes(api.Node{Kind: api.KdTuple, Kids: -9}), false},
		{nodes(api.Node{Mod: math.MinInt, Kids: math.MaxInt}), nodes(api.Node{Mod: math.MinInt, Kids: math.MaxInt}), true},
		{make([]api.Node, 129), make([]api.Node, 129), true},
		{make([]api.Node, 5000), make([]api.Node, 5000), true},
		{make([]api.Node, 5000), make([]api.Node, 4999), false},
	} {
		if types.Same(c.a, c.b) != c.want || types.Same(c.b, c.a) != c.want {
			t.Errorf("Same(%v, %v): %v, %v, want %v", c.a, c.b, types.Same(c.a, c.b), types.Same(c.b, c.a), c.want)
		}
	}
}

func TestSameOfAllShortRows(t *testing.T) {
	var all [][]api.Node
	rowsOf(2, nodes(i0, n0, t0, t1, t2, r1, f2, no), func(body []api.Node) { all = append(all, slices.Clone(body)) })
	for _, a := range all {
		for _, b := range all {
			if g := types.Same(a, b); g != same(a, b) {
				t.Fatalf("Same(%v, %v): %v", a, b, g)
			}
		}
	}
}

// TestSameSeesAFaultAnywhere: one field of one node is another one; or a node is gone, or one more; or terms alone are others.
func TestSameSeesAFaultAnywhere(t *testing.T) {
	for _, body := range append(bodies(), notBodies()...) {
		if !types.Same(body, slices.Clone(body)) {
			t.Fatalf("Same of %v and itself", body)
		}
		if types.Same(body, append(slices.Clone(body), no)) {
			t.Fatalf("Same of %v and one more", body)
		}
		other := slices.Clone(body)
		for at := range body {
			for i, turn := range []func(n *api.Node){
				func(n *api.Node) { n.Kind ^= 1 },
				func(n *api.Node) { n.Kind ^= 128 },
				func(n *api.Node) { n.Mod ^= 1 },
				func(n *api.Node) { n.Mod ^= math.MinInt },
				func(n *api.Node) { n.Name += "a" },
				func(n *api.Node) { n.Name = "~" + n.Name },
				func(n *api.Node) { n.Kids ^= 1 },
				func(n *api.Node) { n.Kids ^= 1 << 32 },
				func(n *api.Node) { n.L.Var = !n.L.Var },
				func(n *api.Node) { n.L.N ^= 1 << 63 },
				func(n *api.Node) { n.PC.Var = !n.PC.Var },
				func(n *api.Node) { n.PC.N++ },
				func(n *api.Node) { n.E.Var = !n.E.Var },
				func(n *api.Node) { n.E.N-- },
			} {
				turn(&other[at])
				if w := i > 7; types.Same(body, other) != w || types.Same(other, body) != w {
					t.Fatalf("Same of %v, with node %d turned as %d tells: want %v", body, at, i, w)
				}
				other[at] = body[at]
			}
			if types.Same(body, slices.Concat(body[:at], body[at+1:])) {
				t.Fatalf("Same of %v, less node %d", body, at)
			}
		}
	}
}

// P7.4

// TestFromANodeOnUpToItsEndIsABody: and up to no other place.
func TestFromANodeOnUpToItsEndIsABody(t *testing.T) {
	for _, body := range bodies() {
		for at := range body {
			end := types.End(body, at)
			for to := at + 1; to <= len(body); to++ {
				if e := types.Check(body[at:to]); (e == api.OK) != (to == end) {
					t.Fatalf("Check of %v, from %d to %d, of which the end is %d: %v", body, at, to, end, e)
				}
			}
			if deep := types.Deep(body[at:end]); deep < 1 || deep > types.Deep(body) || at > 0 && deep == types.Deep(body) {
				t.Fatalf("Deep of %v from %d: %d", body, at, deep)
			}
			if g := types.End(body[at:end], 0); g != end-at {
				t.Fatalf("End of the root of %v from %d: %d, want %d", body, at, g, end-at)
			}
		}
	}
}

// TestBodiesThatAreSameMayBothBeOrNeither: with any terms where they may stand.
func TestBodiesThatAreSameMayBothBeOrNeither(t *testing.T) {
	s := source(5)
	for _, body := range append(bodies(), notBodies()...) {
		for range 5 {
			other := slices.Clone(body)
			for i := range other {
				n := &other[i]
				n.L = terms()[s.below(5)]
				if n.Kind == api.KdFun {
					n.PC, n.E = terms()[s.below(5)], terms()[s.below(5)]
				}
			}
			if !types.Same(body, other) || types.Check(body) != types.Check(other) || types.Deep(body) != types.Deep(other) {
				t.Fatalf("%v, with other terms: Same %v, Check %v, Deep %d", body, types.Same(body, other), types.Check(other), types.Deep(other))
			}
			for at := range body {
				if types.End(body, at) != types.End(other, at) {
					t.Fatalf("End of %v, with other terms, at %d: %d", body, at, types.End(other, at))
				}
			}
		}
	}
}

// R1

// anyNode: a node of fields with no rule to be seen, more often such as may be than chance would have it.
func (s *source) anyNode() api.Node {
	if s.below(4) > 0 {
		return nodes(i0, n0, t0, t1, t2, t3, r1, f2)[s.below(8)]
	}
	numbers := []int{0, 0, 1, 2, 3, 8, 9, 16, 17, -1, math.MinInt, math.MaxInt}
	return api.Node{
		Kind: api.Kind(s.below(9) * s.below(9)), Mod: numbers[s.below(12)], Kids: numbers[s.below(12)],
		Name: []string{"", "int", "t", "\xff", strings.Repeat("n", 33), strings.Repeat("n", 1000)}[s.below(6)],
		L:    terms()[s.below(5)], PC: terms()[s.below(5)], E: terms()[s.below(5)],
	}
}

func TestEveryCallEndsAtAnyNodes(t *testing.T) {
	s := source(1)
	var last []api.Node
	for range 30000 {
		body := make([]api.Node, s.below(12)*s.below(12)*s.below(2)+s.below(6))
		for i := range body {
			body[i] = s.anyNode()
		}
		is(t, "any nodes", body)
		for _, at := range []int{math.MinInt, math.MaxInt} {
			if end := types.End(body, at); end != 0 {
				t.Fatalf("End(%v, %d): %d", body, at, end)
			}
		}
		if g := types.Same(last, body); g != same(last, body) {
			t.Fatalf("Same(%v, %v): %v", last, body, g)
		}
		last = body
	}
}

func TestEveryCallEndsAtGreatLists(t *testing.T) {
	for _, n := range []api.Node{i0, t0, r1, f2, t9, no, {Kind: api.KdTuple, Kids: math.MaxInt}} {
		body := slices.Repeat(nodes(n), 200000)
		if e := types.Check(body); e != api.ErrLimit {
			t.Errorf("Check of 200000 times %v: %v", n, e)
		}
		if types.End(body, 0) != 0 || types.End(body, 199999) != 0 || types.Deep(body) != 0 {
			t.Errorf("End, Deep of 200000 times %v", n)
		}
		if !types.Same(body, slices.Clone(body)) || types.Same(body, body[1:]) {
			t.Errorf("Same of 200000 times %v", n)
		}
	}
}

// TestEveryCallEndsAtGreatNames: of a node, too long to be one.
func TestEveryCallEndsAtGreatNames(t *testing.T) {
	long := strings.Repeat("a", 1<<24)
	for _, kind := range []api.Kind{api.KdNone, api.KdBase, api.KdNamed, api.KdTuple, api.KdRef, api.KdFun, 99} {
		body := nodes(api.Node{Kind: kind, Name: long})
		if e := types.Check(body); e != api.ErrForm || types.End(body, 0) != 0 || types.Deep(body) != 0 {
			t.Errorf("Check of a long name, kind %d: %v", kind, e)
		}
		if !types.Same(body, slices.Clone(body)) || types.Same(body, nodes(api.Node{Kind: kind, Name: long + "b"})) {
			t.Errorf("Same of long names, kind %d", kind)
		}
	}
}

// R4

// roomy: a row with spare room behind it, as whole (l and its room) and as l.
func roomy(l []api.Node, room int, spare api.Node) (whole, part []api.Node) {
	whole = slices.Clip(slices.Concat(l, slices.Repeat(nodes(spare), room)))
	return whole, whole[:len(l)]
}

func TestWhatIsHandedInStaysAsItWas(t *testing.T) {
	for _, body := range append(bodies(), notBodies()...) {
		for _, room := range []int{0, 1, 9, 130} {
			whole, part := roomy(body, room, api.Node{Kind: 77, Name: "room", Kids: 5, L: api.Term{Var: true, N: 8}})
			was := slices.Clone(whole)
			types.Check(part)
			types.Deep(part)
			for at := -1; at <= len(body); at++ {
				types.End(part, at)
			}
			types.Same(part, body)
			types.Same(body, part)
			types.Same(part, part)
			if !slices.Equal(whole, was) {
				t.Fatalf("%v with room for %d became %v", body, room, whole)
			}
		}
	}
}

// TestSpareRoomIsNotRead: nodes that are missing stand in it, or ones that may not be.
func TestSpareRoomIsNotRead(t *testing.T) {
	for _, body := range append(bodies(), notBodies()...) {
		for _, spare := range []api.Node{i0, no, t9} {
			_, part := roomy(body, 130, spare)
			is(t, "a row with room", part)
			if !types.Same(part, body) || !types.Same(body, part) {
				t.Fatalf("Same of %v with room and without", body)
			}
		}
	}
	for _, body := range bodies() {
		for end := range body {
			if e := types.Check(body[:end]); e == api.OK || types.End(body[:end], 0) != 0 || types.Deep(body[:end]) != 0 {
				t.Fatalf("Check of %d of %v, with the others behind: %v", end, body, e)
			}
			if types.Same(body[:end], body) || types.Same(body, body[:end]) {
				t.Fatalf("Same of %d of %v, and all", end, body)
			}
		}
	}
}

func TestEmptyAndNilMeanTheSame(t *testing.T) {
	all := [][]api.Node{nil, {}, make([]api.Node, 0, 5), nodes(i0)[:0], nodes(f2, i0, i0)[1:1]}
	for _, l := range all {
		if e := types.Check(l); e != api.ErrArg {
			t.Errorf("Check of no nodes: %v", e)
		}
		if types.Deep(l) != 0 || types.End(l, 0) != 0 || types.End(l, -1) != 0 || types.End(l, 1) != 0 {
			t.Error("Deep, End of no nodes")
		}
		for _, other := range all {
			if !types.Same(l, other) {
				t.Errorf("Same(%#v, %#v): false", l, other)
			}
		}
		if types.Same(l, nodes(i0)) || types.Same(nodes(i0), l) {
			t.Error("Same of no nodes and one")
		}
	}
}

// R5

func TestAnswersHangOnArgumentsAlone(t *testing.T) {
	all := append(bodies(), notBodies()...)
	var done sync.WaitGroup
	for worker := range 8 {
		done.Go(func() {
			for i := range all {
				body := all[(i*5+worker*31)%len(all)]
				w := want(body)
				if e, deep := types.Check(body), types.Deep(body); e != w.e || deep != w.deep {
					t.Errorf("%v, beside others: Check, Deep: %v, %d, want %v, %d", body, e, deep, w.e, w.deep)
				}
				for at, end := range w.ends {
					if g := types.End(body, at); g != end {
						t.Errorf("%v, beside others: End at %d: %d, want %d", body, at, g, end)
					}
				}
				if !types.Same(body, all[(i*5+worker*31)%len(all)]) {
					t.Errorf("%v, beside others: not the same as itself", body)
				}
			}
		})
	}
	done.Wait()
}
