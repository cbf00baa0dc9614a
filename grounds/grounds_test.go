package grounds_test

import (
	"fmt"
	"math"
	"slices"
	"strings"
	"sync"
	"testing"

	"cartouche/api"
	"cartouche/effects"
	"cartouche/grounds"
	"cartouche/lattices"
	"cartouche/types"
)

// A world has labels, of which a table says which one is below which, and so many effects. Of labels that are not there the table is empty; of effects there are -1: not even the empty set.
type world struct {
	name    string
	labels  [][]bool
	effects int
	l       *lattices.Lattice
	x       *effects.Effects
}

// made: the world of so many labels, of which that rule says which one is below which.
func made(name string, labels int, below func(a, b int) bool, count int) world {
	w := world{name: name, effects: count}
	var rows []uint64
	for a := range labels {
		row, bits := make([]bool, labels), uint64(0)
		for b := range labels {
			if row[b] = below(a, b); row[b] {
				bits |= 1 << b
			}
		}
		w.labels, rows = append(w.labels, row), append(rows, bits)
	}
	var e api.Errno
	if w.l, e = lattices.New(rows); e != api.OK {
		panic(name)
	}
	if w.x, e = effects.New(count); e != api.OK {
		panic(name)
	}
	return w
}

func rising(a, b int) bool { return a <= b }

func subset(a, b int) bool { return a&b == a }

// worlds: of one label and of many, in a row and beside one another, of no effects and of as many as there may be.
func worlds() []world {
	return []world{
		two(),
		diamond(),
		made("one label, no effects", 1, rising, 0),
		made("one label, 64 effects", 1, rising, 64),
		made("three labels in a row, no effects", 3, rising, 0),
		made("64 labels in a row, 64 effects", 64, rising, 64),
		made("three labels falling, three effects", 3, func(a, b int) bool { return a >= b }, 3),
		made("sets of six, one effect", 64, subset, 1),
		made("a pentagon, five effects", 5, func(a, b int) bool { return a == b || a == 0 || b == 4 || a == 2 && b == 3 }, 5),
		made("62 labels beside one another, 63 effects", 64, func(a, b int) bool { return a == b || a == 17 || b == 5 }, 63),
	}
}

// two: 0 below 1, one effect. diamond: 0 below 1 and 2, of which none is below the other one, these below 3; two effects.
func two() world     { return made("two labels, one effect", 2, rising, 1) }
func diamond() world { return made("a diamond, two effects", 4, subset, 2) }

// has: is a label one of the world? is a set one of its effects alone?
func (w world) has(label uint64) bool { return label < uint64(len(w.labels)) }

func (w world) hasSet(set uint64) bool {
	if w.effects < 0 {
		return false
	}
	for i := range 64 {
		if set>>i&1 == 1 && i >= w.effects {
			return false
		}
	}
	return true
}

func (w world) lower(a, b api.Term) bool { return w.labels[a.N][b.N] }

func (w world) fewer(a, b api.Term) bool {
	for i := range 64 {
		if a.N>>i&1 == 1 && b.N>>i&1 == 0 {
			return false
		}
	}
	return true
}

// What the tests ask for is worked out of types as trees, each told by those right below it, which are told against one another the other way round where they take something; the program goes by the sides of spots.
type tree struct {
	node api.Node
	kids []tree
}

// grown: the tree with whose nodes that row begins, and the row behind it.
func grown(body []api.Node) (tree, []api.Node) {
	t := tree{node: body[0]}
	rest := body[1:]
	for range t.node.Kids {
		var kid tree
		kid, rest = grown(rest)
		t.kids = append(t.kids, kid)
	}
	return t, rest
}

// sub: whether what a tells may stand wherever what b tells is asked for.
func (w world) sub(a, b tree) bool {
	if !w.lower(a.node.L, b.node.L) {
		return false
	}
	switch a.node.Kind {
	case api.KdRef: // what is read and written there
		return equal(a.kids[0], b.kids[0])
	case api.KdFun: // called by no less, with no less; does and answers no more
		return w.lower(b.node.PC, a.node.PC) && w.fewer(a.node.E, b.node.E) && w.sub(b.kids[0], a.kids[0]) && w.sub(a.kids[1], b.kids[1])
	}
	for i := range a.kids {
		if !w.sub(a.kids[i], b.kids[i]) {
			return false
		}
	}
	return true
}

func equal(a, b tree) bool {
	return a.node == b.node && slices.EqualFunc(a.kids, b.kids, equal)
}

// grounded: whether all terms of a body are constants that the world has.
func (w world) grounded(body []api.Node) bool {
	for _, n := range body {
		if n.L.Var || !w.has(n.L.N) {
			return false
		}
		if n.Kind == api.KdFun && (n.PC.Var || n.E.Var || !w.has(n.PC.N) || !w.hasSet(n.E.N)) {
			return false
		}
	}
	return true
}

// bare: the body, with no terms.
func bare(body []api.Node) []api.Node {
	l := slices.Clone(body)
	for i := range l {
		l[i].L, l[i].PC, l[i].E = api.Term{}, api.Term{}, api.Term{}
	}
	return l
}

// want: what should be told of both.
func (w world) want(a, b []api.Node) (bool, api.Errno) {
	if types.Check(a) != api.OK || types.Check(b) != api.OK {
		return false, api.ErrForm
	}
	if !w.grounded(a) || !w.grounded(b) {
		return false, api.ErrArg
	}
	if !slices.Equal(bare(a), bare(b)) {
		return false, api.OK
	}
	one, _ := grown(a)
	other, _ := grown(b)
	return w.sub(one, other), api.OK
}

// is: faults t, if of both bodies anything is told but what should be; tells whether the first one is below.
func (w world) is(t *testing.T, name string, a, b []api.Node) bool {
	t.Helper()
	below, e := w.want(a, b)
	w.told(t, name, a, b, below, e)
	return below
}

// told: faults t, if of both bodies anything is told but this.
func (w world) told(t *testing.T, name string, a, b []api.Node, below bool, e api.Errno) {
	t.Helper()
	if got, gotE := grounds.Below(a, b, w.l, w.x); got != below || gotE != e {
		t.Fatalf("%s, %s: Below(%v, %v): %v, %v, want %v, %v", w.name, name, a, b, got, gotE, below, e)
	}
}

// Types, by their labels, PC and effects.

func con(n uint64) api.Term { return api.Term{N: n} }

func anInt(label uint64) []api.Node {
	return []api.Node{{Kind: api.KdBase, Name: "int", L: con(label)}}
}

func named(mod int, name string, label uint64) []api.Node {
	return []api.Node{{Kind: api.KdNamed, Mod: mod, Name: name, L: con(label)}}
}

func tuple(label uint64, parts ...[]api.Node) []api.Node {
	return slices.Concat([]api.Node{{Kind: api.KdTuple, Kids: len(parts), L: con(label)}}, slices.Concat(parts...))
}

func ref(label uint64, part []api.Node) []api.Node {
	return slices.Concat([]api.Node{{Kind: api.KdRef, Kids: 1, L: con(label)}}, part)
}

func fun(label, pc, set uint64, argument, result []api.Node) []api.Node {
	return slices.Concat([]api.Node{{Kind: api.KdFun, Kids: 2, L: con(label), PC: con(pc), E: con(set)}}, argument, result)
}

// fun0: a function whose own terms are noughts.
func fun0(argument, result []api.Node) []api.Node { return fun(0, 0, 0, argument, result) }

// A hole is where a body's term stands, and the way down from the root to there: a letter for each tuple, ref, argument and result.
type hole struct {
	node int
	part api.Part
	way  string
}

// side: the side of what stands at the end of that way.
func (h hole) side() api.Side {
	if strings.Contains(h.way, "r") {
		return api.SiBoth
	}
	if strings.Count(h.way, "a")%2 == 1 {
		return api.SiDown
	}
	return api.SiUp
}

// in: the term that stands there; of a body itself, not of a copy.
func (h hole) in(body []api.Node) *api.Term {
	return []*api.Term{api.PaLabel: &body[h.node].L, api.PaPC: &body[h.node].PC, api.PaEffect: &body[h.node].E}[h.part]
}

// put: the body, with that term there.
func (h hole) put(body []api.Node, term api.Term) []api.Node {
	other := slices.Clone(body)
	*h.in(other) = term
	return other
}

// holesIn: of a body that may be.
func holesIn(body []api.Node) []hole {
	var all []hole
	var down func(at int, way string) int
	down = func(at int, way string) int {
		all = append(all, hole{at, api.PaLabel, way})
		letters := strings.Repeat("t", 8)
		switch body[at].Kind {
		case api.KdRef:
			letters = "r"
		case api.KdFun:
			letters = "af"
			all = append(all, hole{at, api.PaPC, way + "a"}, hole{at, api.PaEffect, way})
		}
		end := at + 1
		for kid := range body[at].Kids {
			end = down(end, way+letters[kid:kid+1])
		}
		return end
	}
	down(0, "")
	return all
}

// steps: ways to put a body below a node, by the letters of a way; tuples and functions that have others beside it are told by other letters.
func steps() map[rune]func(body []api.Node) []api.Node {
	i0 := anInt(0)
	return map[rune]func(body []api.Node) []api.Node{
		't': func(body []api.Node) []api.Node { return tuple(0, body) },
		'r': func(body []api.Node) []api.Node { return ref(0, body) },
		'a': func(body []api.Node) []api.Node { return fun0(body, i0) },
		'f': func(body []api.Node) []api.Node { return fun0(i0, body) },
		'1': func(body []api.Node) []api.Node { return tuple(0, body, fun0(i0, i0)) },
		'2': func(body []api.Node) []api.Node { return tuple(0, fun0(i0, named(2, "t", 0)), body, i0) },
		'3': func(body []api.Node) []api.Node { return tuple(0, i0, ref(0, i0), body) },
		'4': func(body []api.Node) []api.Node { return fun0(body, ref(0, i0)) },
		'5': func(body []api.Node) []api.Node { return fun0(ref(0, tuple(0)), body) },
	}
}

// chain: a body at the end of that way.
func chain(way string, last []api.Node) []api.Node {
	by := steps()
	l := []rune(way)
	for i := range l {
		last = by[l[len(l)-1-i]](last)
	}
	return last
}

// lasts: what stands at a way's end: each kind of node.
func lasts() [][]api.Node {
	return [][]api.Node{anInt(0), named(0, "t", 0), tuple(0), tuple(0, anInt(0), anInt(0)), ref(0, anInt(0)), fun0(anInt(0), anInt(0))}
}

// wide: a body of as many nodes as may be, of them as many functions as can be, below a tuple.
func wide() []api.Node {
	body := anInt(0)
	for range 6 {
		body = fun0(body, body)
	}
	return tuple(0, body)
}

// A source tells numbers with no rule to be seen in them, the same ones each time.
type source uint64

// below: the next one, below n.
func (s *source) below(n int) int {
	*s = *s*6364136223846793005 + 1442695040888963407
	return int(*s >> 33 % source(n))
}

// word: the next one, of 64 bits.
func (s *source) word() uint64 {
	return uint64(s.below(1<<22))<<42 ^ uint64(s.below(1<<22))<<21 ^ uint64(s.below(1<<22))
}

// label, set: one of the world.
func (s *source) label(w world) uint64 { return uint64(s.below(len(w.labels))) }

func (s *source) set(w world) uint64 {
	return s.word() & (1<<w.effects - 1)
}

// shape: a body that may be, if it has no more than 128 nodes; all its terms are noughts.
func (s *source) shape(depth int) []api.Node {
	kind := s.below(9)
	if depth < 2 {
		kind = s.below(2)
	}
	switch kind {
	case 0:
		body := anInt(0)
		body[0].Name = []string{"bool", "int", "text", "unit"}[s.below(4)]
		return body
	case 1:
		return named(s.below(17), strings.Repeat("aZ_9"[:1+s.below(4)], 1+s.below(8)), 0)
	case 2, 3:
		var parts [][]api.Node
		for range s.below(9) {
			parts = append(parts, s.shape(depth-1))
		}
		return tuple(0, parts...)
	case 4:
		return ref(0, s.shape(depth-1))
	}
	return fun0(s.shape(depth-1), s.shape(depth-1))
}

// filled: the body with values of the world at all places.
func (s *source) filled(w world, body []api.Node) []api.Node {
	other := slices.Clone(body)
	for _, h := range holesIn(body) {
		n := s.label(w)
		if h.part == api.PaEffect {
			n = s.set(w)
		}
		*h.in(other) = con(n)
	}
	return other
}

// above: a value above that one: what of it is one, if none is met soon.
func (s *source) above(w world, part api.Part, n uint64, turned bool) uint64 {
	for range 4 {
		other := s.label(w)
		is := w.has(n) && (!turned && w.labels[n][other] || turned && w.labels[other][n])
		if part == api.PaEffect {
			other, is = n|s.set(w), true
			if turned {
				other = n & s.word()
			}
		}
		if is {
			return other
		}
	}
	return n
}

// greater: a body above that one, some of whose values are other ones.
func (s *source) greater(w world, body []api.Node) []api.Node {
	other := slices.Clone(body)
	for _, h := range holesIn(body) {
		if s.below(3) > 0 && h.side() != api.SiBoth {
			*h.in(other) = con(s.above(w, h.part, h.in(body).N, h.side() == api.SiDown))
		}
	}
	return other
}

// shapes: bodies that may be, all their terms noughts: of each kind, few nodes and many, flat and deep, some with no rule to be seen.
func shapes() [][]api.Node {
	all := append(lasts(), wide(), tuple(0, anInt(0), wide()[2:65]), ref(0, fun0(tuple(0, anInt(0), ref(0, tuple(0))), named(1, "t", 0))))
	for _, step := range "trafr1234" {
		all = append(all, chain(strings.Repeat(string(step), 5), anInt(0)), chain(strings.Repeat(string(step)+"a", 6), fun0(anInt(0), anInt(0))))
	}
	s := source(7)
	for len(all) < 200 {
		if body := s.shape(2 + s.below(8)); len(body) <= 128 && len(body) > 2 {
			all = append(all, body)
		}
	}
	return all
}

// notBodies: rows of nodes that are no body, by the reasons why.
func notBodies() map[string][]api.Node {
	term := api.Term{N: 1}
	i0 := anInt(0)
	int0 := i0[0]
	return map[string][]api.Node{
		"no nodes":                               nil,
		"no nodes, but a list":                   {},
		"a node more than may be":                tuple(0, i0, wide()[1:]),
		"far more nodes than may be":             slices.Repeat(i0, 1000),
		"a node behind the root":                 {int0, int0},
		"a node behind all":                      append(fun0(i0, i0), int0),
		"a function's result missing":            fun0(i0, i0)[:2],
		"all missing that stands below a ref":    ref(0, i0)[:1],
		"a tuple's last one missing":             tuple(0, fun0(i0, i0), i0)[:4],
		"no kind":                                {{}},
		"no kind, below a function":              fun0([]api.Node{{}}, i0),
		"a kind that there is not":               {{Kind: 6}},
		"a base that there is not":               {{Kind: api.KdBase, Name: "Int"}},
		"a base of an import":                    {{Kind: api.KdBase, Name: "int", Mod: 1}},
		"a base with one below it":               {{Kind: api.KdBase, Name: "int", Kids: 1}, int0},
		"a base with a PC":                       {{Kind: api.KdBase, Name: "int", PC: term}},
		"a named one with an effect":             {{Kind: api.KdNamed, Name: "t", E: term}},
		"a named one of no import":               {{Kind: api.KdNamed, Name: "t", Mod: 17}},
		"a named one of a negative import":       {{Kind: api.KdNamed, Name: "t", Mod: -1}},
		"a named one of no name":                 {{Kind: api.KdNamed, Name: "1"}},
		"a named one of too long a name":         {{Kind: api.KdNamed, Name: strings.Repeat("n", 33)}},
		"a ref of two":                           {{Kind: api.KdRef, Kids: 2}, int0, int0},
		"a ref with a PC that is a variable":     {{Kind: api.KdRef, Kids: 1, PC: api.Term{Var: true}}, int0},
		"a function of one":                      {{Kind: api.KdFun, Kids: 1}, int0},
		"a function with a name":                 {{Kind: api.KdFun, Kids: 2, Name: "f"}, int0, int0},
		"a tuple of a negative count":            {{Kind: api.KdTuple, Kids: -1}},
		"a tuple of the least count":             {{Kind: api.KdTuple, Kids: math.MinInt}},
		"a tuple of the greatest count":          {{Kind: api.KdTuple, Kids: math.MaxInt}},
		"a tuple of one more than may be":        tuple(0, slices.Repeat([][]api.Node{i0}, 9)...),
		"one deeper than may be":                 chain(strings.Repeat("r", 16), i0),
		"one deeper than may be, beside another": tuple(0, fun0(i0, i0), chain(strings.Repeat("a", 15), i0)),
	}
}

func TestExamples(t *testing.T) {
	w := two()
	i0, i1 := anInt(0), anInt(1)
	r0, r1 := ref(0, i0), ref(0, i1)
	f0, f1 := fun0(i0, i0), fun0(i1, i0)
	variable := anInt(0)
	variable[0].L.Var = true
	for i, c := range []struct {
		a, b  []api.Node
		below bool
		e     api.Errno
	}{
		{i0, i1, true, api.OK},
		{i1, i0, false, api.OK},
		{r0, r1, false, api.OK},
		{f1, f0, true, api.OK},
		{f0, f1, false, api.OK},
		{i0, r0, false, api.OK},
		{variable, i0, false, api.ErrArg},
		{anInt(2), i0, false, api.ErrArg},
		{nil, i0, false, api.ErrForm},
	} {
		w.told(t, fmt.Sprint("example ", i), c.a, c.b, c.below, c.e)
	}
}

// P9.1

// TestWrittenTypes: of labels 0 below 1 and 2, these below 3, and two effects: each pair, and it turned round.
func TestWrittenTypes(t *testing.T) {
	w := diamond()
	i0, i1, i2, i3 := anInt(0), anInt(1), anInt(2), anInt(3)
	const yes, no = true, false
	for i, c := range []struct {
		a, b         []api.Node
		below, above bool
	}{
		{i0, i0, yes, yes},
		{i0, i3, yes, no},
		{i1, i3, yes, no},
		{i1, i2, no, no},
		{named(0, "t", 1), named(0, "t", 3), yes, no},
		{named(3, "t", 2), named(3, "t", 1), no, no},
		{tuple(0), tuple(1), yes, no},
		{tuple(0, i1, i2), tuple(0, i3, i2), yes, no},
		{tuple(0, i1, i2), tuple(0, i1, i3), yes, no},
		{tuple(0, i1, i2), tuple(1, i0, i2), no, no},
		{tuple(0, i1, i3), tuple(0, i3, i1), no, no},
		{tuple(0, i1, i2), tuple(0, i2, i1), no, no},
		// A ref itself may be below, not what it refers to.
		{ref(0, i1), ref(1, i1), yes, no},
		{ref(0, i0), ref(0, i1), no, no},
		{ref(0, i0), ref(3, i1), no, no},
		{ref(0, ref(0, i0)), ref(1, ref(0, i0)), yes, no},
		{ref(0, ref(0, i0)), ref(0, ref(1, i0)), no, no},
		{ref(0, tuple(0, i0, i1)), ref(0, tuple(0, i0, i1)), yes, yes},
		{ref(0, tuple(0, i0, i1)), ref(0, tuple(0, i0, i3)), no, no},
		// A function's own label, its PC, its effects, its argument, its result.
		{fun(0, 1, 1, i1, i1), fun(1, 1, 1, i1, i1), yes, no},
		{fun(1, 1, 1, i1, i1), fun(1, 0, 1, i1, i1), yes, no},
		{fun(1, 1, 1, i1, i1), fun(1, 2, 1, i1, i1), no, no},
		{fun(1, 1, 1, i1, i1), fun(1, 1, 3, i1, i1), yes, no},
		{fun(1, 1, 0, i1, i1), fun(1, 1, 2, i1, i1), yes, no},
		{fun(1, 1, 1, i1, i1), fun(1, 1, 2, i1, i1), no, no},
		{fun(1, 1, 1, i1, i1), fun(1, 1, 1, i0, i1), yes, no},
		{fun(1, 1, 1, i1, i1), fun(1, 1, 1, i1, i3), yes, no},
		{fun(0, 3, 0, i3, i0), fun(3, 0, 3, i0, i3), yes, no},
		{fun(0, 3, 0, i3, i0), fun(3, 0, 3, i3, i0), yes, no},
		{fun(0, 0, 0, i3, i0), fun(3, 3, 3, i0, i3), no, no},
		// What an argument takes, it takes turned round twice.
		{fun0(fun0(i0, i1), i0), fun0(fun0(i1, i1), i0), yes, no},
		{fun0(fun0(i0, i1), i0), fun0(fun0(i0, i0), i0), yes, no},
		{fun0(fun(1, 0, 0, i0, i0), i0), fun0(fun(0, 0, 0, i0, i0), i0), yes, no},
		{fun0(fun(0, 0, 0, i0, i0), i0), fun0(fun(0, 1, 0, i0, i0), i0), yes, no},
		{fun0(fun(0, 0, 1, i0, i0), i0), fun0(fun(0, 0, 0, i0, i0), i0), yes, no},
		{fun0(fun0(fun0(i1, i0), i0), i0), fun0(fun0(fun0(i0, i0), i0), i0), yes, no},
		{fun0(i0, fun0(i1, i0)), fun0(i0, fun0(i0, i0)), yes, no},
		{fun0(tuple(0, i1, i0), i0), fun0(tuple(0, i0, i0), i0), yes, no},
		{tuple(0, fun0(i1, i0)), tuple(0, fun0(i0, i0)), yes, no},
		// A ref below an argument is turned, what it refers to goes both.
		{fun0(ref(1, i0), i0), fun0(ref(0, i0), i0), yes, no},
		{fun0(ref(0, i1), i0), fun0(ref(0, i0), i0), no, no},
		{ref(0, fun0(i1, i0)), ref(0, fun0(i0, i0)), no, no},
		{ref(0, fun(0, 0, 0, i0, i0)), ref(0, fun(0, 0, 1, i0, i0)), no, no},
		{ref(0, fun(0, 0, 0, i0, i0)), ref(0, fun(0, 1, 0, i0, i0)), no, no},
		{ref(0, fun(0, 0, 0, i0, i0)), ref(0, fun(1, 0, 0, i0, i0)), no, no},
		// Behind a ref, or an argument, sides are again what they were.
		{tuple(0, ref(0, i0), i0), tuple(0, ref(0, i0), i1), yes, no},
		{tuple(0, fun0(fun0(i0, i0), i0), i0), tuple(0, fun0(fun0(i0, i0), i0), i1), yes, no},
		{fun0(tuple(0, ref(0, i0), i1), i0), fun0(tuple(0, ref(0, i0), i0), i0), yes, no},
	} {
		w.told(t, fmt.Sprint("written ", i), c.a, c.b, c.below, api.OK)
		w.told(t, fmt.Sprint("written, turned, ", i), c.b, c.a, c.above, api.OK)
		w.is(t, fmt.Sprint("written ", i), c.a, c.b)
		w.is(t, fmt.Sprint("written, turned, ", i), c.b, c.a)
	}
}

// middle: a body with the same values at all places: label 1 of the diamond, and the first effect.
func middle(body []api.Node) []api.Node {
	other := slices.Clone(body)
	for _, h := range holesIn(body) {
		*h.in(other) = con(1)
	}
	return other
}

// oneAlone: faults t, if in a body one place that is greater, less or neither makes it anything but what its side says; of the diamond, whose sets of two effects are below one another as its labels are. Tells how many places have each side.
func oneAlone(t *testing.T, w world, shape []api.Node, sides *[3]int) {
	t.Helper()
	body := middle(shape)
	w.told(t, "itself", body, slices.Clone(body), true, api.OK)
	for _, h := range holesIn(body) {
		side := h.side()
		sides[side]++
		greater, less, beside := h.put(body, con(3)), h.put(body, con(0)), h.put(body, con(2))
		w.told(t, "one greater", body, greater, side == api.SiUp, api.OK)
		w.told(t, "one greater, turned", greater, body, side == api.SiDown, api.OK)
		w.told(t, "one less", body, less, side == api.SiDown, api.OK)
		w.told(t, "one less, turned", less, body, side == api.SiUp, api.OK)
		w.told(t, "one beside", body, beside, false, api.OK)
		w.told(t, "one beside, turned", beside, body, false, api.OK)
	}
}

func TestOneSpotAlone(t *testing.T) {
	w := diamond()
	var sides [3]int
	for _, body := range shapes() {
		oneAlone(t, w, body, &sides)
	}
	if sides[api.SiUp] < 1000 || sides[api.SiDown] < 1000 || sides[api.SiBoth] < 1000 {
		t.Errorf("places that go up, down, both: %v", sides)
	}
}

// TestAllWaysDown: of up to two steps all, of three those with nothing beside them at the end, of as many as may be some; with each kind of node at the end.
func TestAllWaysDown(t *testing.T) {
	var all []string
	next := []string{"traf12345", "traf12345", "traf", ""}
	var longer func(way string)
	longer = func(way string) {
		all = append(all, way)
		for _, step := range next[len(way)] {
			longer(way + string(step))
		}
	}
	longer("")
	for length := 4; length < api.MaxDepth; length++ {
		s := source(length)
		for _, letters := range []string{"a", "f", "t", "r", "af", "at", "aft", "aaaaar", "123", "aft12345"} {
			way := ""
			for range length {
				at := s.below(len(letters))
				way += letters[at : at+1]
			}
			all = append(all, way)
		}
	}
	w := diamond()
	deepest := 0
	var sides [3]int
	for _, way := range all {
		for _, last := range lasts() {
			body := chain(way, last)
			if types.Check(body) == api.OK {
				oneAlone(t, w, body, &sides)
				deepest = max(deepest, types.Deep(body))
			}
		}
	}
	if deepest != api.MaxDepth || sides[api.SiUp] < 5000 || sides[api.SiDown] < 5000 || sides[api.SiBoth] < 5000 {
		t.Errorf("chains that go %d deep, places that go up, down, both: %v", deepest, sides)
	}
}

// TestSidesTurnAtEachArgument: as deep as may be; what stands at the end of an even count goes up, at that of an odd one down.
func TestSidesTurnAtEachArgument(t *testing.T) {
	w := diamond()
	for count := range api.MaxDepth {
		less, greater := chain(strings.Repeat("a", count), anInt(1)), chain(strings.Repeat("a", count), anInt(3))
		w.told(t, fmt.Sprint(count, " arguments deep"), less, greater, count%2 == 0, api.OK)
		w.told(t, fmt.Sprint(count, " arguments deep, turned"), greater, less, count%2 == 1, api.OK)
		for results := range api.MaxDepth - count {
			way := strings.Repeat("f", results) + strings.Repeat("a", count)
			w.told(t, way, chain(way, anInt(1)), chain(way, anInt(3)), count%2 == 0, api.OK)
			w.told(t, way, chain(way, anInt(3)), chain(way, anInt(1)), count%2 == 1, api.OK)
		}
	}
}

// TestAllTypesOfSmallBodies: each type of a body against each other one.
func TestAllTypesOfSmallBodies(t *testing.T) {
	i0 := anInt(0)
	for _, c := range []struct {
		w    world
		body []api.Node
	}{
		{diamond(), i0},
		{diamond(), named(4, "t", 0)},
		{diamond(), tuple(0)},
		{diamond(), ref(0, i0)},
		{diamond(), tuple(0, i0, i0)},
		{diamond(), ref(0, tuple(0, i0))},
		{diamond(), tuple(0, ref(0, i0))},
		{worlds()[8], tuple(0, i0, i0)},
		{made("three labels in a row, one effect", 3, rising, 1), fun0(i0, i0)},
		{made("one label, four effects", 1, rising, 4), fun0(i0, fun0(i0, i0))},
		{made("one label, four effects", 1, rising, 4), fun0(fun0(i0, i0), i0)},
		{made("one label, four effects", 1, rising, 4), ref(0, fun0(i0, i0))},
		{two(), ref(0, fun0(i0, i0))},
		{two(), fun0(ref(0, i0), i0)},
		{two(), fun0(i0, ref(0, i0))},
		{two(), fun0(tuple(0, i0, i0), i0)},
		{made("two labels, no effects", 2, rising, 0), fun0(fun0(i0, i0), i0)},
		{made("two labels, no effects", 2, rising, 0), fun0(i0, fun0(i0, i0))},
	} {
		all := typesOf(c.w, c.body)
		var counts [2]int
		table := make([][]bool, len(all))
		for a := range all {
			for b := range all {
				below := c.w.is(t, "a small body", all[a], all[b])
				table[a] = append(table[a], below)
				if below {
					counts[1]++
				} else {
					counts[0]++
				}
				if below && a != b && b < a && table[b][a] {
					t.Fatalf("%s: %v and %v are below one another", c.w.name, all[a], all[b])
				}
			}
			if !table[a][a] {
				t.Fatalf("%s: %v is not below itself", c.w.name, all[a])
			}
		}
		leadsOn(t, c.w, all, table)
		if counts[0] == 0 || counts[1] == 0 {
			t.Errorf("%s, %v: below another one or not: %v", c.w.name, c.body, counts)
		}
	}
}

// typesOf: all types of a body, with values of the world.
func typesOf(w world, body []api.Node) [][]api.Node {
	all := [][]api.Node{body}
	for _, h := range holesIn(body) {
		count := len(w.labels)
		if h.part == api.PaEffect {
			count = 1 << w.effects
		}
		var more [][]api.Node
		for _, one := range all {
			for n := range uint64(count) {
				more = append(more, h.put(one, con(n)))
			}
		}
		all = more
	}
	return all
}

// P9.2

// leadsOn: faults t, if one is below another one, and that below a third one, but not the first one below the third one.
func leadsOn(t *testing.T, w world, all [][]api.Node, below [][]bool) {
	t.Helper()
	for a := range all {
		for b := range all {
			if !below[a][b] {
				continue
			}
			for c := range all {
				if below[b][c] && !below[a][c] {
					t.Fatalf("%s: %v is below %v, that below %v, not the first one", w.name, all[a], all[b], all[c])
				}
			}
		}
	}
}

// TestATypeIsBelowItself: whatever its values are.
func TestATypeIsBelowItself(t *testing.T) {
	s := source(3)
	for _, w := range worlds() {
		for _, shape := range shapes() {
			body := s.filled(w, shape)
			w.told(t, "itself, the same list", body, body, true, api.OK)
			w.told(t, "itself, another list", body, slices.Clone(body), true, api.OK)
		}
	}
}

// TestThreeInARow: each is above the one ahead of it, and so above the first one; below it only, if all are the same.
func TestThreeInARow(t *testing.T) {
	s := source(11)
	other := 0
	for _, w := range worlds() {
		for _, shape := range shapes() {
			a := s.filled(w, shape)
			b := s.greater(w, a)
			c := s.greater(w, b)
			for _, pair := range [][2][]api.Node{{a, b}, {b, c}, {a, c}} {
				w.told(t, "in a row", pair[0], pair[1], true, api.OK)
				w.told(t, "in a row, turned", pair[1], pair[0], slices.Equal(pair[0], pair[1]), api.OK)
			}
			if !slices.Equal(a, b) && !slices.Equal(b, c) {
				other++
			}
		}
	}
	if other < 1000 {
		t.Errorf("%d times three were other ones", other)
	}
}

// TestTwoBelowOneAnotherAreTheSame: any two of few values, so that both ways are met.
func TestTwoBelowOneAnotherAreTheSame(t *testing.T) {
	s := source(13)
	same, one := 0, 0
	for range 20000 {
		w := two()
		shape := lasts()[s.below(6)]
		a, b := s.filled(w, shape), s.filled(w, shape)
		there, e := grounds.Below(a, b, w.l, w.x)
		back, eBack := grounds.Below(b, a, w.l, w.x)
		if e != api.OK || eBack != api.OK || there && back != slices.Equal(a, b) {
			t.Fatalf("Below(%v, %v): %v, %v, turned %v, %v", a, b, there, e, back, eBack)
		}
		if there && back {
			same++
		} else if there {
			one++
		}
	}
	if same < 1000 || one < 1000 {
		t.Errorf("%d times both ways, %d times one way", same, one)
	}
}

// P9.1, again

// TestAnyTypes: such as are often below one another, but for one place, or few.
func TestAnyTypes(t *testing.T) {
	s := source(5)
	counts := map[bool]int{}
	for _, w := range worlds() {
		for _, shape := range shapes() {
			for range 3 {
				a := s.filled(w, shape)
				b := s.greater(w, a)
				counts[w.is(t, "greater", a, b)]++
				holes := holesIn(shape)
				for range s.below(3) {
					h := holes[s.below(len(holes))]
					n := s.label(w)
					if h.part == api.PaEffect {
						n = s.set(w)
					}
					b = h.put(b, con(n))
				}
				counts[w.is(t, "greater, but for few places", a, b)]++
				counts[w.is(t, "greater, but for few places, turned", b, a)]++
				counts[w.is(t, "any values", a, s.filled(w, shape))]++
			}
		}
	}
	if counts[true] < 5000 || counts[false] < 5000 {
		t.Errorf("below, or not: %v", counts)
	}
}

// TestEachEffect: of as many as there may be: one alone that is there or is not.
func TestEachEffect(t *testing.T) {
	for _, count := range []int{0, 1, 2, 31, 32, 33, 63, 64} {
		w := made(fmt.Sprint(count, " effects"), 1, rising, count)
		top := uint64(1)<<count - 1
		f := func(set uint64) []api.Node { return fun(0, 0, set, anInt(0), anInt(0)) }
		g := func(set uint64) []api.Node { return fun0(f(set), anInt(0)) }
		w.told(t, "none", f(0), f(0), true, api.OK)
		w.told(t, "none, all", f(0), f(top), true, api.OK)
		w.told(t, "all, none", f(top), f(0), count == 0, api.OK)
		w.told(t, "turned: none, all", g(0), g(top), count == 0, api.OK)
		for i := range 64 {
			one := uint64(1) << i
			if i >= count {
				w.told(t, "one beyond, first", f(one), f(0), false, api.ErrArg)
				w.told(t, "one beyond, second", f(0), f(one|top), false, api.ErrArg)
				continue
			}
			w.told(t, "one, none", f(one), f(0), false, api.OK)
			w.told(t, "none, one", f(0), f(one), true, api.OK)
			w.told(t, "turned: one, none", g(one), g(0), true, api.OK)
			w.told(t, "one, all others", f(one), f(top&^one), false, api.OK)
			w.told(t, "all others, all", f(top&^one), f(top), true, api.OK)
			w.told(t, "below a ref", ref(0, f(top&^one)), ref(0, f(top)), false, api.OK)
		}
	}
}

// TestEachLabel: each two labels of each world, at each side.
func TestEachLabel(t *testing.T) {
	for _, w := range worlds() {
		for a := range w.labels {
			for b := range w.labels {
				one, other := anInt(uint64(a)), anInt(uint64(b))
				i0 := anInt(0)
				w.told(t, "up", one, other, w.labels[a][b], api.OK)
				w.told(t, "down", fun0(one, i0), fun0(other, i0), w.labels[b][a], api.OK)
				w.told(t, "down, a PC", fun(0, uint64(a), 0, i0, i0), fun(0, uint64(b), 0, i0, i0), w.labels[b][a], api.OK)
				w.told(t, "both", ref(0, one), ref(0, other), a == b, api.OK)
			}
		}
	}
}

func TestOfHowManyNodesThereAre(t *testing.T) {
	w := diamond()
	most := middle(wide())
	if len(most) != api.MaxNodes {
		t.Fatalf("%d nodes", len(most))
	}
	last := slices.Clone(most)
	last[api.MaxNodes-1].L = con(3)
	w.told(t, "as many nodes as may be", most, most, true, api.OK)
	w.told(t, "the last one greater", most, last, true, api.OK)
	w.told(t, "the last one less", last, most, false, api.OK)
	more := tuple(1, anInt(1), most[1:])
	w.told(t, "one more, first", more, most, false, api.ErrForm)
	w.told(t, "one more, second", most, more, false, api.ErrForm)
	w.told(t, "one more, both", more, more, false, api.ErrForm)
	w.told(t, "none, first", nil, anInt(0), false, api.ErrForm)
	w.told(t, "none, second", anInt(0), nil, false, api.ErrForm)
	w.told(t, "none, both", nil, nil, false, api.ErrForm)
	w.told(t, "one", anInt(1), anInt(3), true, api.OK)
	w.told(t, "one and many", anInt(1), most, false, api.OK)
	w.told(t, "many and one", most, anInt(1), false, api.OK)
}

// Errors

func TestWhatMayNotBe(t *testing.T) {
	variable := anInt(0)
	variable[0].L = api.Term{Var: true}
	for _, w := range append(worlds(), noWorlds()...) {
		for why, body := range notBodies() {
			if types.Check(body) == api.OK {
				t.Fatalf("%s: Check(%v): OK", why, body)
			}
			// Ahead of terms that may not be, too, of both bodies.
			for _, good := range [][]api.Node{anInt(0), fun0(anInt(0), anInt(0)), wide(), variable, anInt(999), anInt(math.MaxUint64), fun(0, 0, math.MaxUint64, anInt(0), anInt(0))} {
				w.told(t, "first: "+why, body, good, false, api.ErrForm)
				w.told(t, "second: "+why, good, body, false, api.ErrForm)
			}
			w.told(t, "both: "+why, body, slices.Clone(body), false, api.ErrForm)
		}
	}
	w := two()
	for one, a := range notBodies() {
		for other, b := range notBodies() {
			w.told(t, one+", and "+other, a, b, false, api.ErrForm)
		}
	}
	// The node that may not be has a term that may not be, too.
	w.told(t, "a term in what may not be", []api.Node{{Kind: 9, L: api.Term{Var: true}}}, anInt(0), false, api.ErrForm)
	w.told(t, "a term in what may not be, second", anInt(0), append(fun0(variable, variable), variable...), false, api.ErrForm)
}

// badTerms: such as may not stand at a place of the world: variables, and values of none.
func badTerms(w world, part api.Part) []api.Term {
	l := []api.Term{{Var: true}, {Var: true, N: 1}, {Var: true, N: 64}, {Var: true, N: math.MaxUint64}}
	if part == api.PaEffect {
		if w.effects < 64 {
			l = append(l, con(1<<w.effects), con(1<<63), con(math.MaxUint64), con(1<<w.effects|1))
		}
		return l
	}
	count := uint64(len(w.labels))
	return append(l, con(count), con(count+1), con(64), con(128), con(1<<32), con(1<<63), con(math.MaxUint64), con(math.MaxUint64-63))
}

// TestTermsThatMayNotBe: at each place, in the first body, in the second one, in both.
func TestTermsThatMayNotBe(t *testing.T) {
	s := source(17)
	for i, w := range worlds() {
		for j, shape := range shapes() {
			// All worlds with some bodies, some worlds with all of them.
			if len(shape) > 30 && i != j%10 {
				continue
			}
			body := s.filled(w, shape)
			for _, h := range holesIn(shape) {
				for k, term := range badTerms(w, h.part) {
					if len(shape) > 9 && k != s.below(8) {
						continue
					}
					bad := h.put(body, term)
					w.told(t, "first", bad, body, false, api.ErrArg)
					w.told(t, "second", body, bad, false, api.ErrArg)
					w.told(t, "both", bad, bad, false, api.ErrArg)
				}
			}
		}
	}
}

// TestTermsAreLookedAtAheadOfTypes: a term that may not be is told, where bodies are not the same, where another place is not below, and where a sort has no values.
func TestTermsAreLookedAtAheadOfTypes(t *testing.T) {
	s := source(19)
	w := diamond()
	all := shapes()
	for i, shape := range all {
		body := middle(shape)
		holes := holesIn(shape)
		h := holes[s.below(len(holes))]
		terms := badTerms(w, h.part)
		bad := h.put(body, terms[s.below(len(terms))])
		other := middle(all[(i+1+s.below(len(all)-1))%len(all)])
		same := slices.Equal(bare(body), bare(other))
		w.told(t, "not the same", body, other, same, api.OK)
		w.told(t, "not the same, and a term, first", bad, other, false, api.ErrArg)
		w.told(t, "not the same, and a term, second", other, bad, false, api.ErrArg)
		for _, not := range []hole{holes[0], holes[len(holes)-1], holes[s.below(len(holes))]} {
			if not == h {
				continue
			}
			aside := not.put(body, con(2))
			w.told(t, "aside elsewhere", body, aside, false, api.OK)
			w.told(t, "aside elsewhere, and a term, first", bad, aside, false, api.ErrArg)
			w.told(t, "aside elsewhere, and a term, second", aside, bad, false, api.ErrArg)
			worse := not.put(bad, con(2))
			w.told(t, "aside, and a term, in one body", worse, body, false, api.ErrArg)
			w.told(t, "aside, and a term, in the other body", body, worse, false, api.ErrArg)
		}
	}
}

// TestOtherBodies: one field of one node is another one; all values are the same.
func TestOtherBodies(t *testing.T) {
	w := diamond()
	i0 := anInt(0)
	groups := [][][]api.Node{
		{i0, {{Kind: api.KdBase, Name: "bool"}}, {{Kind: api.KdBase, Name: "text"}}, {{Kind: api.KdBase, Name: "unit"}}, named(0, "int", 0), named(0, "t", 0), named(0, "T", 0), named(0, "tt", 0), named(1, "t", 0), named(16, "t", 0), tuple(0)},
		{tuple(0, i0), ref(0, i0), tuple(0, named(0, "int", 0)), ref(0, tuple(0)), tuple(0, tuple(0))},
		{tuple(0, i0, i0), fun0(i0, i0), tuple(0, tuple(0, i0)), tuple(0, ref(0, i0)), ref(0, ref(0, i0)), ref(0, tuple(0, i0))},
		{tuple(0, i0, tuple(0, i0)), tuple(0, tuple(0, i0), i0), tuple(0, tuple(0), tuple(0, i0)), fun0(i0, ref(0, i0)), fun0(ref(0, i0), i0), ref(0, fun0(i0, i0))},
	}
	count := 0
	for _, way := range []string{"", "t", "r", "a", "f", "12", "345", "araf", "tttttttttttt"} {
		var all [][]api.Node
		for _, group := range groups {
			for _, last := range group {
				all = append(all, chain(way, last))
			}
		}
		for i, a := range all {
			for j, b := range all {
				w.told(t, "other bodies", a, b, i == j, api.OK)
				w.is(t, "other bodies", a, b)
				bad := slices.Clone(b)
				bad[len(bad)-1].L = api.Term{Var: true}
				w.told(t, "other bodies, and a term, second", a, bad, false, api.ErrArg)
				w.told(t, "other bodies, and a term, first", bad, a, false, api.ErrArg)
				count++
			}
		}
	}
	if count < 5000 {
		t.Errorf("%d pairs", count)
	}
}

// R1

// noWorlds: labels or effects, or both, that are not there, or that no call made.
func noWorlds() []world {
	var all []world
	full := diamond()
	for _, l := range []*lattices.Lattice{nil, {}, full.l} {
		for _, x := range []*effects.Effects{nil, {}, full.x} {
			if l == full.l && x == full.x {
				continue
			}
			w := world{name: fmt.Sprintf("labels there: %v, made: %v; effects there: %v, made: %v", l != nil, l == full.l, x != nil, x == full.x), l: l, x: x}
			if l == full.l {
				w.labels = full.labels
			}
			w.effects = -1
			if x == full.x {
				w.effects = full.effects
			}
			all = append(all, w)
		}
	}
	return all
}

// TestSortsThatAreNotThere: they have no values: of labels each type has some; of effects each function.
func TestSortsThatAreNotThere(t *testing.T) {
	for _, w := range noWorlds() {
		for _, shape := range shapes() {
			body := middle(shape)
			e := api.OK
			if w.labels == nil || w.effects < 0 && slices.ContainsFunc(body, func(n api.Node) bool { return n.Kind == api.KdFun }) {
				e = api.ErrArg
			}
			w.told(t, "itself", body, body, e == api.OK, e)
			w.told(t, "noughts", shape, shape, e == api.OK, e)
			greater := slices.Clone(body)
			greater[0].L = con(3)
			w.told(t, "greater", body, greater, e == api.OK, e)
			w.told(t, "less", greater, body, false, e)
		}
	}
	none := world{name: "nothing", effects: -1}
	none.told(t, "no labels, no effects", anInt(0), anInt(0), false, api.ErrArg)
	noEffects := two()
	noEffects.x = nil
	noEffects.told(t, "a function, first", fun0(anInt(0), anInt(0)), anInt(0), false, api.ErrArg)
	noEffects.told(t, "a function, second", anInt(0), fun0(anInt(0), anInt(0)), false, api.ErrArg)
	noEffects.told(t, "no function", anInt(0), anInt(1), true, api.OK)
	noEffects.told(t, "no function, other bodies", anInt(0), ref(0, anInt(1)), false, api.OK)
}

// anyNode: a node of fields with no rule to be seen, more often such as may be than chance would have it.
func (s *source) anyNode() api.Node {
	term := func() api.Term {
		return []api.Term{{}, {}, {}, con(1), con(1), con(2), con(3), con(4), {Var: true}, con(math.MaxUint64)}[s.below(10)]
	}
	if s.below(6) > 0 {
		n := slices.Concat(anInt(0), named(1, "t", 0), tuple(0), ref(0, nil), fun0(nil, nil), tuple(0, nil, nil))[s.below(6)]
		n.L = con(uint64(s.below(4)))
		if n.Kind == api.KdFun {
			n.PC, n.E = con(uint64(s.below(4))), con(uint64(s.below(4)))
		}
		if s.below(9) == 0 {
			n.L = term()
		}
		return n
	}
	numbers := []int{0, 0, 1, 2, 3, 8, 9, 16, 17, -1, math.MinInt, math.MaxInt}
	return api.Node{
		Kind: api.Kind(s.below(9) * s.below(9)), Mod: numbers[s.below(12)], Kids: numbers[s.below(12)],
		Name: []string{"", "int", "t", "\xff", strings.Repeat("n", 33)}[s.below(5)],
		L:    term(), PC: term(), E: term(),
	}
}

func TestEveryCallEndsAtAnyNodes(t *testing.T) {
	s := source(1)
	all := append(worlds()[:4], noWorlds()...)
	counts := map[api.Errno]int{}
	for range 60000 {
		w := all[s.below(len(all))]
		if s.below(3) > 0 {
			w = all[1]
		}
		rows := [2][]api.Node{}
		for i := range rows {
			rows[i] = make([]api.Node, s.below(12)*s.below(12)*s.below(2)*s.below(2)+s.below(5))
			for j := range rows[i] {
				rows[i][j] = s.anyNode()
			}
		}
		w.is(t, "any nodes", rows[0], rows[1])
		w.is(t, "any nodes, and themselves", rows[0], rows[0])
		_, e := w.want(rows[0], rows[0])
		counts[e]++
	}
	if counts[api.OK] < 1000 || counts[api.ErrForm] < 1000 || counts[api.ErrArg] < 1000 {
		t.Errorf("nodes, by their errors: %v", counts)
	}
}

func TestEveryCallEndsAtGreatLists(t *testing.T) {
	for _, n := range slices.Concat(anInt(0), tuple(0), ref(0, nil), fun0(nil, nil), tuple(0, make([][]api.Node, 9)...), []api.Node{{}, {Kind: api.KdTuple, Kids: math.MaxInt}, {Kind: api.KdNamed, Name: strings.Repeat("a", 1<<20)}}) {
		many := slices.Repeat([]api.Node{n}, 200000)
		for _, w := range append(noWorlds(), two(), worlds()[5]) {
			w.told(t, "great lists", many, many, false, api.ErrForm)
			w.told(t, "a great list, first", many, anInt(0), false, api.ErrForm)
			w.told(t, "a great list, second", wide(), many, false, api.ErrForm)
			w.told(t, "a great list, and none", nil, many, false, api.ErrForm)
		}
	}
}

// R4

// roomy: a list with spare room behind it, as whole (l and its room) and as l.
func roomy(l []api.Node, room int, spare api.Node) (whole, part []api.Node) {
	whole = slices.Clip(slices.Concat(l, slices.Repeat([]api.Node{spare}, room)))
	return whole, whole[:len(l)]
}

// all: bodies that may be, and rows that are none.
func all() [][]api.Node {
	l := shapes()
	for _, body := range notBodies() {
		l = append(l, body)
	}
	return l
}

func TestWhatIsHandedInStaysAsItWas(t *testing.T) {
	s := source(23)
	spare := api.Node{Kind: 77, Name: "room", Kids: 5, L: api.Term{Var: true, N: 8}}
	for _, w := range append(noWorlds(), worlds()[:6]...) {
		for _, body := range all() {
			a, b := slices.Clone(body), slices.Clone(body)
			if w.labels != nil && types.Check(body) == api.OK {
				v := w
				v.effects = max(w.effects, 0)
				a = s.filled(v, body)
				b = s.greater(v, a)
			}
			for _, room := range []int{0, 130} {
				wholeA, partA := roomy(a, room, spare)
				wholeB, partB := roomy(b, room, spare)
				wasA, wasB := slices.Clone(wholeA), slices.Clone(wholeB)
				w.is(t, "with room", partA, partB)
				w.is(t, "with room, turned", partB, partA)
				w.is(t, "with room, and itself", partA, partA)
				if !slices.Equal(wholeA, wasA) || !slices.Equal(wholeB, wasB) {
					t.Fatalf("%v and %v became %v and %v", wasA, wasB, wholeA, wholeB)
				}
			}
		}
	}
}

// TestSortsStayAsTheyWere: what they tell is told after all calls as it was.
func TestSortsStayAsTheyWere(t *testing.T) {
	for _, w := range worlds() {
		for _, body := range all() {
			w.is(t, "with itself", body, body)
			w.is(t, "with an int", body, anInt(0))
		}
		for a := range uint64(70) {
			if w.l.Has(a) != w.has(a) || w.x.Has(a) != w.hasSet(a) {
				t.Fatalf("%s: Has(%d): %v; %v", w.name, a, w.l.Has(a), w.x.Has(a))
			}
			for b := range uint64(70) {
				if w.l.Below(a, b) != (w.has(a) && w.has(b) && w.labels[a][b]) || w.x.Below(a, b) != (w.hasSet(a) && w.hasSet(b) && w.fewer(con(a), con(b))) {
					t.Fatalf("%s: Below(%d, %d): %v; %v", w.name, a, b, w.l.Below(a, b), w.x.Below(a, b))
				}
			}
		}
	}
	for _, w := range noWorlds() {
		if w.labels == nil && w.l.Has(0) || w.effects < 0 && w.x.Has(0) {
			t.Errorf("%s: it has values", w.name)
		}
	}
}

// TestSpareRoomIsNotRead: nodes that are missing stand in it, and others that are too many.
func TestSpareRoomIsNotRead(t *testing.T) {
	w := diamond()
	for _, shape := range shapes() {
		body := middle(shape)
		for end := range body {
			w.told(t, "cut off, first", body[:end], body, false, api.ErrForm)
			w.told(t, "cut off, second", body, body[:end], false, api.ErrForm)
		}
		for _, spare := range slices.Concat(anInt(3), []api.Node{{}, {Kind: api.KdBase, Name: "int", L: api.Term{Var: true}}}) {
			_, part := roomy(body, 130, spare)
			w.told(t, "with room, first", part, body, true, api.OK)
			w.told(t, "with room, second", body, part, true, api.OK)
		}
	}
}

func TestEmptyAndNilMeanTheSame(t *testing.T) {
	nones := [][]api.Node{nil, {}, make([]api.Node, 0, 5), anInt(0)[:0], fun0(anInt(0), anInt(0))[1:1]}
	for _, w := range append(noWorlds(), worlds()...) {
		for _, none := range nones {
			for _, other := range nones {
				w.told(t, "no nodes", none, other, false, api.ErrForm)
			}
			w.told(t, "no nodes, first", none, anInt(0), false, api.ErrForm)
			w.told(t, "no nodes, second", anInt(0), none, false, api.ErrForm)
		}
	}
}

// TestNothingIsKept: what becomes of what was handed in changes no later answer.
func TestNothingIsKept(t *testing.T) {
	w := diamond()
	a, b := anInt(1), anInt(3)
	w.told(t, "at first", a, b, true, api.OK)
	a[0].L = con(2)
	w.told(t, "another one", a, b, true, api.OK)
	b[0].L = con(1)
	w.told(t, "another one again", a, b, false, api.OK)
	b[0].L.Var = true
	w.told(t, "a variable", a, b, false, api.ErrArg)
	b[0].Name = ""
	w.told(t, "no base", a, b, false, api.ErrForm)
	b[0] = a[0]
	w.told(t, "the same", a, b, true, api.OK)
}

// R5

func TestAnswersHangOnArgumentsAlone(t *testing.T) {
	ws := append(noWorlds(), worlds()...)
	l := all()
	var done sync.WaitGroup
	for worker := range 8 {
		done.Go(func() {
			for i := range l {
				w := ws[(i+worker)%len(ws)]
				a := l[(i*5+worker*31)%len(l)]
				b := slices.Clone(a)
				if len(b) > 0 {
					b[len(b)-1].L = con(uint64(i % 5))
				}
				below, e := w.want(a, b)
				// Twice: with the same sorts as others, and with some of its own.
				if got, gotE := grounds.Below(a, b, w.l, w.x); got != below || gotE != e {
					t.Errorf("%s, beside others: Below(%v, %v): %v, %v, want %v, %v", w.name, a, b, got, gotE, below, e)
				}
				own := diamond()
				below, e = own.want(a, b)
				if got, gotE := grounds.Below(a, b, own.l, own.x); got != below || gotE != e {
					t.Errorf("beside others: Below(%v, %v): %v, %v, want %v, %v", a, b, got, gotE, below, e)
				}
			}
		})
	}
	done.Wait()
}
