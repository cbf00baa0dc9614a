package spots_test

import (
	"fmt"
	"math"
	"slices"
	"strings"
	"sync"
	"testing"

	"cartouche/api"
	"cartouche/spots"
	"cartouche/types"
)

// What the tests ask for is worked out of each node's way down from the root, a letter a step, where the program hands sides on from node to node.
const (
	inTuple    = "t"
	inRef      = "r"
	inArgument = "a"
	inResult   = "f"
)

// sideAt: the side of what stands at the end of that way.
func sideAt(way string) api.Side {
	if strings.Contains(way, inRef) {
		return api.SiBoth
	}
	if strings.Count(way, inArgument)%2 == 1 {
		return api.SiDown
	}
	return api.SiUp
}

// waysIn: of each node of a body that may be its way down from the root.
func waysIn(body []api.Node) []string {
	all := make([]string, len(body))
	var down func(at int, way string) int
	down = func(at int, way string) int {
		all[at] = way
		steps := map[api.Kind]string{api.KdTuple: strings.Repeat(inTuple, 8), api.KdRef: inRef, api.KdFun: inArgument + inResult}[body[at].Kind]
		end := at + 1
		for kid := range body[at].Kids {
			end = down(end, way+steps[kid:kid+1])
		}
		return end
	}
	down(0, "")
	return all
}

// want: the spots that should be told of a body.
func want(body []api.Node) (labels, effects []api.Spot) {
	if types.Check(body) != api.OK {
		return nil, nil
	}
	for at, way := range waysIn(body) {
		n := body[at]
		labels = append(labels, api.Spot{Node: at, Part: api.PaLabel, Side: sideAt(way), T: n.L})
		if n.Kind == api.KdFun {
			labels = append(labels, api.Spot{Node: at, Part: api.PaPC, Side: sideAt(way + inArgument), T: n.PC})
			effects = append(effects, api.Spot{Node: at, Part: api.PaEffect, Side: sideAt(way), T: n.E})
		}
	}
	return labels, effects
}

// withTerms: the body, whose nodes take these terms one behind the other, as many as each needs.
func withTerms(body []api.Node, labels, effects []api.Term) []api.Node {
	take := func(l *[]api.Term) api.Term {
		first := (*l)[0]
		*l = (*l)[1:]
		return first
	}
	var other []api.Node
	for _, n := range body {
		n.L = take(&labels)
		if n.Kind == api.KdFun {
			n.PC, n.E = take(&labels), take(&effects)
		}
		other = append(other, n)
	}
	return other
}

// termsAt: the terms that stand at spots.
func termsAt(l []api.Spot) []api.Term {
	var all []api.Term
	for _, s := range l {
		all = append(all, s.T)
	}
	return all
}

// numbered: as many terms, no two of them the same one, with numbers from that one on.
func numbered(count int, from uint64) []api.Term {
	var l []api.Term
	for i := range uint64(count) {
		l = append(l, api.Term{Var: i%3 == 1, N: from + i})
	}
	return l
}

// terms: such as may stand anywhere: variables and constants, of the least and of the greatest number.
func terms() []api.Term {
	return []api.Term{{}, {Var: true}, {N: 1}, {Var: true, N: 1}, {N: 63}, {Var: true, N: 64}, {N: math.MaxUint64}, {Var: true, N: math.MaxUint64}, {N: 1 << 63}}
}

// is: faults t, if anything that is told of a body, or of terms put, is other than it should be.
func is(t *testing.T, name string, body []api.Node) {
	t.Helper()
	labels, effects := spots.Of(body)
	wantLabels, wantEffects := want(body)
	if !slices.Equal(labels, wantLabels) || !slices.Equal(effects, wantEffects) {
		t.Fatalf("%s: Of(%v): %v; %v, want %v; %v", name, body, labels, effects, wantLabels, wantEffects)
	}
	if len(labels) == 0 {
		isNot(t, name, body)
		return
	}
	put(t, name, body, numbered(len(wantLabels), 1000), numbered(len(wantEffects), 9000))
	putMiscounted(t, name, body, len(wantLabels), len(wantEffects))
}

// put: faults t, if these terms, as many as there are spots, are not put there.
func put(t *testing.T, name string, body []api.Node, labels, effects []api.Term) []api.Node {
	t.Helper()
	other, e := spots.Put(body, labels, effects)
	if w := withTerms(body, labels, effects); e != api.OK || !slices.Equal(other, w) {
		t.Fatalf("%s: Put(%v, %v, %v): %v, %v, want %v", name, body, labels, effects, other, e, w)
	}
	return other
}

// putMiscounted: faults t, if as many terms as are not needed are put.
func putMiscounted(t *testing.T, name string, body []api.Node, labels, effects int) {
	t.Helper()
	for _, off := range [][2]int{{-1, 0}, {1, 0}, {0, -1}, {0, 1}, {-1, 1}, {1, -1}, {-labels, 0}, {-labels, -effects}, {effects - labels, labels - effects}} {
		l, x := labels+off[0], effects+off[1]
		if x < 0 || l == labels && x == effects {
			continue
		}
		if other, e := spots.Put(body, numbered(l, 0), numbered(x, 0)); other != nil || e != api.ErrArg {
			t.Fatalf("%s: Put(%v, %d labels, %d effects), of %d and %d spots: %v, %v", name, body, l, x, labels, effects, other, e)
		}
	}
}

// isNot: faults t, if spots are told of what may not be a body, or terms put into it.
func isNot(t *testing.T, name string, body []api.Node) {
	t.Helper()
	if labels, effects := spots.Of(body); labels != nil || effects != nil {
		t.Fatalf("%s: Of(%v): %v; %v", name, body, labels, effects)
	}
	funs := 0
	for _, n := range body {
		if n.Kind == api.KdFun {
			funs++
		}
	}
	for _, c := range [][2]int{{0, 0}, {len(body) + funs, funs}, {1, 0}, {0, 1}, {len(body), 0}, {len(body) + funs + 1, funs + 1}} {
		if other, e := spots.Put(body, numbered(c[0], 0), numbered(c[1], 0)); other != nil || e != api.ErrForm {
			t.Fatalf("%s: Put(%v, %d labels, %d effects): %v, %v", name, body, c[0], c[1], other, e)
		}
	}
}

// row: rows of nodes, one behind the other: a node ahead of what stands below it makes a body.
func row(parts ...[]api.Node) []api.Node { return slices.Concat(parts...) }

// tuple: a tuple of these.
func tuple(parts ...[]api.Node) []api.Node {
	return row([]api.Node{{Kind: api.KdTuple, Kids: len(parts)}}, row(parts...))
}

func ref(part []api.Node) []api.Node { return row(r1, part) }

func fun(argument, result []api.Node) []api.Node { return row(f2, argument, result) }

// Nodes, as they stand in a row.
var (
	i0 = []api.Node{{Kind: api.KdBase, Name: "int"}}
	n0 = []api.Node{{Kind: api.KdNamed, Name: "t", Mod: 1}}
	t0 = []api.Node{{Kind: api.KdTuple}}
	t2 = []api.Node{{Kind: api.KdTuple, Kids: 2}}
	t9 = []api.Node{{Kind: api.KdTuple, Kids: 9}}
	r1 = []api.Node{{Kind: api.KdRef, Kids: 1}}
	f2 = []api.Node{{Kind: api.KdFun, Kids: 2}}
	no = []api.Node{{}}
)

// steps: ways to put a body below a node, by the letters of a way; tuples and functions that have others beside it are told by other letters.
func steps() map[rune]func(body []api.Node) []api.Node {
	return map[rune]func(body []api.Node) []api.Node{
		't': func(body []api.Node) []api.Node { return tuple(body) },
		'r': ref,
		'a': func(body []api.Node) []api.Node { return fun(body, i0) },
		'f': func(body []api.Node) []api.Node { return fun(i0, body) },
		'1': func(body []api.Node) []api.Node { return tuple(body, fun(i0, i0)) },
		'2': func(body []api.Node) []api.Node { return tuple(fun(i0, n0), body, i0) },
		'3': func(body []api.Node) []api.Node { return tuple(i0, ref(i0), body) },
		'4': func(body []api.Node) []api.Node { return fun(body, ref(i0)) },
		'5': func(body []api.Node) []api.Node { return fun(ref(t0), body) },
	}
}

// chain: a body at the end of that way.
func chain(way string, last []api.Node) []api.Node {
	by := steps()
	l := []rune(way)
	for i := range l {
		last = by[l[len(l)-1-i]](last)
	}
	return last
}

// lasts: what stands at a way's end: each kind of node.
func lasts() [][]api.Node {
	return [][]api.Node{i0, n0, t0, tuple(i0, i0), ref(i0), fun(i0, i0)}
}

// wide: a body of as many nodes as may be, of them as many functions as can be, below a tuple.
func wide() []api.Node {
	body := i0
	for range 6 {
		body = fun(body, body)
	}
	return tuple(body)
}

// A source tells numbers with no rule to be seen in them, the same ones each time.
type source uint64

// below: the next one, below n.
func (s *source) below(n int) int {
	*s = *s*6364136223846793005 + 1442695040888963407
	return int(*s >> 33 % source(n))
}

func (s *source) anyTerms(count int) []api.Term {
	var l []api.Term
	for range count {
		l = append(l, terms()[s.below(len(terms()))])
	}
	return l
}

// anyBody: a body that may be, if it has no more than 128 nodes, with terms where they may stand.
func (s *source) anyBody(depth int) []api.Node {
	kind := s.below(9)
	if depth < 2 {
		kind = s.below(2)
	}
	var body []api.Node
	switch kind {
	case 0:
		body = []api.Node{{Kind: api.KdBase, Name: []string{"bool", "int", "text", "unit"}[s.below(4)]}}
	case 1:
		body = []api.Node{{Kind: api.KdNamed, Name: strings.Repeat("aZ_9"[:1+s.below(4)], 1+s.below(8)), Mod: s.below(17)}}
	case 2, 3:
		var parts [][]api.Node
		for range s.below(9) {
			parts = append(parts, s.anyBody(depth-1))
		}
		body = tuple(parts...)
	case 4:
		body = ref(s.anyBody(depth - 1))
	default:
		body = fun(s.anyBody(depth-1), s.anyBody(depth-1))
		body[0].PC, body[0].E = s.anyTerms(1)[0], s.anyTerms(1)[0]
	}
	body[0].L = s.anyTerms(1)[0]
	return body
}

// bodies: bodies that may be: of each kind, few nodes and many, flat and deep, some with no rule to be seen.
func bodies() [][]api.Node {
	all := append(lasts(), wide(), tuple(i0, wide()[2:65]), ref(fun(tuple(i0, ref(t0)), n0)))
	for _, step := range "trafr1234" {
		all = append(all, chain(strings.Repeat(string(step), 5), i0), chain(strings.Repeat(string(step)+"a", 6), fun(i0, i0)))
	}
	s := source(7)
	for len(all) < 500 {
		if body := s.anyBody(2 + s.below(8)); len(body) <= 128 && len(body) > 2 {
			all = append(all, body)
		}
	}
	return all
}

// notBodies: rows of nodes that are no body, by the reasons why.
func notBodies() map[string][]api.Node {
	term := api.Term{Var: true}
	return map[string][]api.Node{
		"no nodes":                               nil,
		"no nodes, but a list":                   {},
		"a node more than may be":                tuple(i0, wide()[1:]),
		"far more nodes than may be":             slices.Repeat(i0, 1000),
		"a node behind the root":                 row(i0, i0),
		"a node behind all":                      row(fun(i0, i0), i0),
		"a function's result missing":            row(f2, i0),
		"all missing that stands below a ref":    r1,
		"a tuple's last one missing":             row(t2, fun(i0, i0)),
		"no kind":                                no,
		"no kind, below a function":              fun(no, i0),
		"a kind that there is not":               {{Kind: 6}},
		"a base that there is not":               {{Kind: api.KdBase, Name: "Int"}},
		"a base of an import":                    {{Kind: api.KdBase, Name: "int", Mod: 1}},
		"a base with a PC":                       {{Kind: api.KdBase, Name: "int", PC: term}},
		"a named one with an effect":             {{Kind: api.KdNamed, Name: "t", E: term}},
		"a named one of no import":               {{Kind: api.KdNamed, Name: "t", Mod: 17}},
		"a named one of no name":                 {{Kind: api.KdNamed, Name: "1"}},
		"a ref of two":                           {{Kind: api.KdRef, Kids: 2}, i0[0], i0[0]},
		"a function of one":                      {{Kind: api.KdFun, Kids: 1}, i0[0]},
		"a function with a name":                 {{Kind: api.KdFun, Kids: 2, Name: "f"}, i0[0], i0[0]},
		"a tuple of a negative count":            {{Kind: api.KdTuple, Kids: -1}},
		"a tuple of the least count":             {{Kind: api.KdTuple, Kids: math.MinInt}},
		"a tuple of the greatest count":          {{Kind: api.KdTuple, Kids: math.MaxInt}},
		"a tuple of one more than may be":        row(t9, slices.Repeat(i0, 9)),
		"one deeper than may be":                 chain(strings.Repeat("r", 16), i0),
		"one deeper than may be, beside another": tuple(fun(i0, i0), chain(strings.Repeat("a", 15), i0)),
	}
}

// told: spots as a text: of each its node, its part (a label, a PC, an effect) and its side (up, down, both).
func told(l []api.Spot) string {
	var all []string
	for _, s := range l {
		all = append(all, fmt.Sprintf("%d%c%c", s.Node, "LPE"[s.Part], "+-="[s.Side]))
	}
	return strings.Join(all, " ")
}

func TestExamples(t *testing.T) {
	labels, effects := spots.Of(fun(i0, i0))
	if told(labels) != "0L+ 0P- 1L- 2L+" || told(effects) != "0E+" {
		t.Errorf("Of a function from int to int: %s; %s", told(labels), told(effects))
	}
	labels, effects = spots.Of(ref(i0))
	if told(labels) != "0L+ 1L=" || effects != nil {
		t.Errorf("Of ref int: %s; %s", told(labels), told(effects))
	}
}

// P8.1

func TestOfWrittenBodies(t *testing.T) {
	for _, c := range []struct {
		body            []api.Node
		labels, effects string
	}{
		{i0, "0L+", ""},
		{n0, "0L+", ""},
		{t0, "0L+", ""},
		{tuple(i0, n0), "0L+ 1L+ 2L+", ""},
		{tuple(i0, ref(i0), fun(i0, i0)), "0L+ 1L+ 2L+ 3L= 4L+ 4P- 5L- 6L+", "4E+"},
		{fun(fun(i0, i0), i0), "0L+ 0P- 1L- 1P+ 2L+ 3L- 4L+", "0E+ 1E-"},
		{fun(i0, fun(i0, i0)), "0L+ 0P- 1L- 2L+ 2P- 3L- 4L+", "0E+ 2E+"},
		{fun(fun(fun(i0, i0), i0), i0), "0L+ 0P- 1L- 1P+ 2L+ 2P- 3L- 4L+ 5L- 6L+", "0E+ 1E- 2E+"},
		{fun(fun(i0, fun(i0, i0)), i0), "0L+ 0P- 1L- 1P+ 2L+ 3L- 3P+ 4L+ 5L- 6L+", "0E+ 1E- 3E-"},
		{fun(tuple(i0, fun(i0, i0)), tuple(i0, fun(i0, i0))), "0L+ 0P- 1L- 2L- 3L- 3P+ 4L+ 5L- 6L+ 7L+ 8L+ 8P- 9L- 10L+", "0E+ 3E- 8E+"},
		{ref(fun(i0, i0)), "0L+ 1L= 1P= 2L= 3L=", "1E="},
		{ref(fun(fun(i0, i0), i0)), "0L+ 1L= 1P= 2L= 2P= 3L= 4L= 5L=", "1E= 2E="},
		{ref(ref(i0)), "0L+ 1L= 2L=", ""},
		{fun(ref(i0), i0), "0L+ 0P- 1L- 2L= 3L+", "0E+"},
		{fun(i0, ref(tuple(i0, i0))), "0L+ 0P- 1L- 2L+ 3L= 4L= 5L=", "0E+"},
		{fun(ref(fun(i0, i0)), ref(fun(i0, i0))), "0L+ 0P- 1L- 2L= 2P= 3L= 4L= 5L+ 6L= 6P= 7L= 8L=", "0E+ 2E= 6E="},
		// Behind what stands below a ref, or an argument, sides are again what they were.
		{tuple(ref(tuple(i0)), i0), "0L+ 1L+ 2L= 3L= 4L+", ""},
		{tuple(fun(fun(i0, i0), i0), i0, t0), "0L+ 1L+ 1P- 2L- 2P+ 3L+ 4L- 5L+ 6L+ 7L+", "1E+ 2E-"},
		{fun(tuple(ref(i0), i0), i0), "0L+ 0P- 1L- 2L- 3L= 4L- 5L+", "0E+"},
		{ref(tuple(fun(i0, i0), i0)), "0L+ 1L= 2L= 2P= 3L= 4L= 5L=", "2E="},
	} {
		labels, effects := spots.Of(c.body)
		if told(labels) != c.labels || told(effects) != c.effects {
			t.Errorf("Of(%v): %s; %s, want %s; %s", c.body, told(labels), told(effects), c.labels, c.effects)
		}
		is(t, "a written body", c.body)
	}
}

// TestOfTermsThatStandThere: each spot has its own one, of labels, of PCs, of effects.
func TestOfTermsThatStandThere(t *testing.T) {
	a, b, c := api.Term{N: 1}, api.Term{Var: true, N: 2}, api.Term{N: math.MaxUint64}
	body := []api.Node{{Kind: api.KdFun, Kids: 2, L: a, PC: b, E: c}, {Kind: api.KdBase, Name: "int", L: c}, {Kind: api.KdFun, Kids: 2, L: b, PC: c, E: a}, i0[0], {Kind: api.KdNamed, Name: "t", L: a}}
	labels, effects := spots.Of(body)
	if !slices.Equal(termsAt(labels), []api.Term{a, b, c, b, c, {}, a}) || !slices.Equal(termsAt(effects), []api.Term{c, a}) {
		t.Errorf("terms of Of(%v): %v; %v", body, termsAt(labels), termsAt(effects))
	}
	for _, body := range bodies() {
		l, x := want(body)
		for _, one := range terms() {
			for _, other := range terms() {
				at := put(t, "one term of labels, one of effects", body, slices.Repeat([]api.Term{one}, len(l)), slices.Repeat([]api.Term{other}, len(x)))
				labels, effects := spots.Of(at)
				if slices.ContainsFunc(labels, func(s api.Spot) bool { return s.T != one }) || slices.ContainsFunc(effects, func(s api.Spot) bool { return s.T != other }) {
					t.Fatalf("Of(%v): %v; %v, want %v and %v alone", at, labels, effects, one, other)
				}
			}
		}
	}
}

// TestSidesTurnAtEachArgument: as deep as may be.
func TestSidesTurnAtEachArgument(t *testing.T) {
	for count := range api.MaxDepth - 1 {
		body := chain(strings.Repeat("a", count), fun(i0, i0))
		labels, effects := spots.Of(body)
		for at := range count + 1 {
			up, down := api.SiUp, api.SiDown
			if at%2 == 1 {
				up, down = down, up
			}
			if own, pc, e := labels[2*at], labels[2*at+1], effects[at]; own.Node != at || own.Side != up || pc.Node != at || pc.Side != down || e.Node != at || e.Side != up {
				t.Fatalf("Of a function %d arguments deep, of %d: %v, %v, %v", at, count, own, pc, e)
			}
		}
	}
}

// TestAllWaysDown: of few steps all, of as many as may be some; with each kind of node at the end.
func TestAllWaysDown(t *testing.T) {
	var all []string
	var longer func(way string)
	longer = func(way string) {
		all = append(all, way)
		if len(way) < 4 {
			for _, step := range "traf12345" {
				longer(way + string(step))
			}
		}
	}
	longer("")
	for length := 5; length < api.MaxDepth; length++ {
		s := source(length)
		for _, letters := range []string{"a", "f", "t", "r", "af", "at", "aft", "aaar", "123", "aft12345"} {
			way := ""
			for range length {
				at := s.below(len(letters))
				way += letters[at : at+1]
			}
			all = append(all, way)
		}
	}
	deepest, mayBe := 0, map[bool]int{}
	for _, way := range all {
		for _, last := range lasts() {
			body := chain(way, last)
			is(t, "a chain", body)
			deepest = max(deepest, types.Deep(body))
			mayBe[types.Check(body) == api.OK]++
		}
	}
	if deepest != api.MaxDepth || mayBe[true] < 40000 || mayBe[false] == 0 {
		t.Errorf("chains that go %d deep; that may be, and not: %v", deepest, mayBe)
	}
}

func TestOfHowManyNodesThereAre(t *testing.T) {
	body := wide()
	labels, effects := spots.Of(body)
	if len(body) != api.MaxNodes || len(labels) != 191 || len(effects) != 63 {
		t.Errorf("Of %d nodes: %d spots of labels, %d of effects", len(body), len(labels), len(effects))
	}
	is(t, "as many nodes as may be", body)
	isNot(t, "one more", tuple(i0, body[1:]))
	isNot(t, "none", nil)
	is(t, "one", i0)
	for count := 1; count <= api.MaxNodes; count++ {
		is(t, "a count of nodes", flat(count))
	}
}

// flat: a body of that many nodes, none of them a function.
func flat(count int) []api.Node {
	var parts [][]api.Node
	for left := count - 1; left > 0; {
		kid := (left + 7 - len(parts)) / (8 - len(parts))
		parts = append(parts, flat(kid))
		left -= kid
	}
	return tuple(parts...)
}

func TestOfWhatMayNotBe(t *testing.T) {
	for why, body := range notBodies() {
		if types.Check(body) == api.OK {
			t.Fatalf("%s: Check(%v): OK", why, body)
		}
		isNot(t, why, body)
	}
}

// rowsOf: tells each row of up to most of these nodes.
func rowsOf(most int, of []api.Node, tell func(body []api.Node)) {
	var body []api.Node
	var longer func(left int)
	longer = func(left int) {
		tell(body)
		for _, n := range of {
			if left > 0 {
				body = append(body, n)
				longer(left - 1)
				body = body[:len(body)-1]
			}
		}
	}
	longer(most)
}

// P8.1, P8.2

func TestAllShortRows(t *testing.T) {
	mayBe := map[bool]int{}
	try := func(body []api.Node) {
		mayBe[types.Check(body) == api.OK]++
		is(t, "a short row", body)
	}
	rowsOf(4, row(i0, n0, t0, tuple(i0)[:1], t2, r1, f2, t9, no), try)
	rowsOf(7, row(i0, r1, f2), try)
	if mayBe[true] == 0 || mayBe[false] == 0 {
		t.Errorf("rows that may be, and not: %v", mayBe)
	}
}

func TestAnyBodies(t *testing.T) {
	for _, body := range bodies() {
		if types.Check(body) != api.OK {
			t.Fatalf("Check(%v): %v", body, types.Check(body))
		}
		is(t, "a body", body)
	}
}

// P8.2

func TestPutOfHowManyTermsThereAre(t *testing.T) {
	for _, c := range []struct {
		body            []api.Node
		labels, effects int
	}{
		{i0, 1, 0}, {t0, 1, 0}, {ref(n0), 2, 0}, {fun(i0, i0), 4, 1}, {tuple(i0, i0, i0), 4, 0}, {fun(fun(i0, i0), ref(i0)), 8, 2}, {ref(fun(i0, fun(i0, i0))), 8, 2},
	} {
		for labels := range 2*c.labels + 3 {
			for effects := range 2*c.labels + 3 {
				other, e := spots.Put(c.body, numbered(labels, 0), numbered(effects, 50))
				if labels == c.labels && effects == c.effects {
					if e != api.OK || len(other) != len(c.body) {
						t.Errorf("Put(%v, %d labels, %d effects): %v, %v", c.body, labels, effects, other, e)
					}
				} else if other != nil || e != api.ErrArg {
					t.Errorf("Put(%v, %d labels, %d effects): %v, %v", c.body, labels, effects, other, e)
				}
			}
		}
	}
}

func TestPutOfWrittenTerms(t *testing.T) {
	l := numbered(7, 1)
	x := []api.Term{{N: 100}, {Var: true, N: 101}}
	other, e := spots.Put(fun(fun(i0, n0), t0), l, x)
	w := []api.Node{
		{Kind: api.KdFun, Kids: 2, L: l[0], PC: l[1], E: x[0]},
		{Kind: api.KdFun, Kids: 2, L: l[2], PC: l[3], E: x[1]},
		{Kind: api.KdBase, Name: "int", L: l[4]}, {Kind: api.KdNamed, Name: "t", Mod: 1, L: l[5]},
		{Kind: api.KdTuple, L: l[6]},
	}
	if e != api.OK || !slices.Equal(other, w) {
		t.Errorf("Put: %v, %v, want %v", other, e, w)
	}
}

func TestWhichErrorIsToldFirst(t *testing.T) {
	for _, c := range []struct {
		why             string
		body            []api.Node
		labels, effects int
		want            api.Errno
	}{
		{"no nodes, no terms", nil, 0, 0, api.ErrForm},
		{"no nodes, and terms", nil, 3, 3, api.ErrForm},
		{"too many nodes, and as many terms", slices.Repeat(i0, 129), 129, 0, api.ErrForm},
		{"too many nodes, and no terms", slices.Repeat(i0, 129), 0, 0, api.ErrForm},
		{"too deep, and no terms", chain(strings.Repeat("r", 16), i0), 0, 0, api.ErrForm},
		{"one missing, and terms for all", row(f2, i0), 4, 1, api.ErrForm},
		{"one missing, and terms for those there", row(f2, i0), 3, 1, api.ErrForm},
		{"one that may not be, and too few labels", fun(no, i0), 3, 1, api.ErrForm},
		{"one that may not be, and too many effects", fun(no, i0), 4, 2, api.ErrForm},
		{"one label too few, one effect too many", fun(i0, i0), 3, 2, api.ErrArg},
		{"one label too many, one effect too few", fun(i0, i0), 5, 0, api.ErrArg},
		{"an effect of a body without functions", i0, 1, 1, api.ErrArg},
		{"no terms", i0, 0, 0, api.ErrArg},
		{"labels and effects changed about", fun(i0, i0), 1, 4, api.ErrArg},
	} {
		if other, e := spots.Put(c.body, numbered(c.labels, 0), numbered(c.effects, 0)); other != nil || e != c.want {
			t.Errorf("Put of %s: %v, %v, want %v", c.why, other, e, c.want)
		}
	}
}

// P8.3

// TestWhatIsPutStandsAtTheSpots: which are the same else; and put anew it is what it was.
func TestWhatIsPutStandsAtTheSpots(t *testing.T) {
	s := source(5)
	for _, body := range bodies() {
		labels, effects := spots.Of(body)
		for range 5 {
			l, x := s.anyTerms(len(labels)), s.anyTerms(len(effects))
			other, e := spots.Put(body, l, x)
			if e != api.OK || !types.Same(body, other) || types.Check(other) != api.OK {
				t.Fatalf("Put(%v, %v, %v): %v, %v", body, l, x, other, e)
			}
			otherLabels, otherEffects := spots.Of(other)
			if !slices.Equal(termsAt(otherLabels), l) || !slices.Equal(termsAt(otherEffects), x) {
				t.Fatalf("Of(%v), into which %v; %v were put: %v; %v", other, l, x, otherLabels, otherEffects)
			}
			if told(otherLabels) != told(labels) || told(otherEffects) != told(effects) {
				t.Fatalf("Of(%v): %v; %v, want, but for terms, %v; %v", other, otherLabels, otherEffects, labels, effects)
			}
			if back, e := spots.Put(other, termsAt(labels), termsAt(effects)); e != api.OK || !slices.Equal(back, body) {
				t.Fatalf("Put(%v, %v, %v): %v, %v, want %v", other, termsAt(labels), termsAt(effects), back, e, body)
			}
		}
	}
}

func TestABodyWithItsOwnTermsIsItself(t *testing.T) {
	for _, body := range bodies() {
		labels, effects := spots.Of(body)
		if other, e := spots.Put(body, termsAt(labels), termsAt(effects)); e != api.OK || !slices.Equal(other, body) {
			t.Fatalf("Put(%v) of its own terms: %v, %v", body, other, e)
		}
	}
}

// TestOneSpotAlonePutAnew: one field of one node is another one, and nothing else.
func TestOneSpotAlonePutAnew(t *testing.T) {
	anew := api.Term{Var: true, N: 77}
	field := func(n *api.Node, part api.Part) *api.Term {
		return map[api.Part]*api.Term{api.PaLabel: &n.L, api.PaPC: &n.PC, api.PaEffect: &n.E}[part]
	}
	for _, body := range bodies() {
		labels, effects := spots.Of(body)
		for i, s := range append(slices.Clone(labels), effects...) {
			l, x := termsAt(labels), termsAt(effects)
			if i < len(l) {
				l[i] = anew
			} else {
				x[i-len(l)] = anew
			}
			w := slices.Clone(body)
			*field(&w[s.Node], s.Part) = anew
			if other, e := spots.Put(body, l, x); e != api.OK || !slices.Equal(other, w) {
				t.Fatalf("Put(%v) of another term at %v: %v, %v", body, s, other, e)
			}
		}
	}
}

// TestBelowARefAllSpotsGoBoth: and no other one does.
func TestBelowARefAllSpotsGoBoth(t *testing.T) {
	count := 0
	for _, body := range bodies() {
		below := make([]bool, len(body))
		for at, n := range body {
			if n.Kind == api.KdRef {
				for i := at + 1; i < types.End(body, at); i++ {
					below[i] = true
				}
			}
		}
		labels, effects := spots.Of(body)
		for _, s := range append(labels, effects...) {
			if (s.Side == api.SiBoth) != below[s.Node] {
				t.Fatalf("Of(%v): %v, below a ref: %v", body, s, below[s.Node])
			}
			if below[s.Node] {
				count++
			}
		}
	}
	if count < 1000 {
		t.Errorf("%d spots stood below a ref", count)
	}
}

// R1

// anyNode: a node of fields with no rule to be seen, more often such as may be than chance would have it.
func (s *source) anyNode() api.Node {
	if s.below(5) > 0 {
		return row(i0, n0, t0, t2, r1, f2)[s.below(6)]
	}
	numbers := []int{0, 0, 1, 2, 3, 8, 9, 16, 17, -1, math.MinInt, math.MaxInt}
	l := s.anyTerms(3)
	return api.Node{
		Kind: api.Kind(s.below(9) * s.below(9)), Mod: numbers[s.below(12)], Kids: numbers[s.below(12)],
		Name: []string{"", "int", "t", "\xff", strings.Repeat("n", 33)}[s.below(5)],
		L:    l[0], PC: l[1], E: l[2],
	}
}

func TestEveryCallEndsAtAnyNodesAndTerms(t *testing.T) {
	s := source(1)
	for range 30000 {
		body := make([]api.Node, s.below(12)*s.below(12)*s.below(2)+s.below(6))
		for i := range body {
			body[i] = s.anyNode()
		}
		is(t, "any nodes", body)
		l, x := s.anyTerms(s.below(12)), s.anyTerms(s.below(3))
		labels, effects := want(body)
		w := api.OK
		if labels == nil {
			w = api.ErrForm
		} else if len(l) != len(labels) || len(x) != len(effects) {
			w = api.ErrArg
		}
		if other, e := spots.Put(body, l, x); e != w || (other == nil) != (w != api.OK) {
			t.Fatalf("Put(%v, %v, %v): %v, %v, want %v", body, l, x, other, e, w)
		}
	}
}

func TestEveryCallEndsAtGreatLists(t *testing.T) {
	many := numbered(200000, 0)
	for _, n := range row(i0, t0, r1, f2, t9, no, []api.Node{{Kind: api.KdTuple, Kids: math.MaxInt}, {Kind: api.KdNamed, Name: strings.Repeat("a", 1<<20)}}) {
		body := slices.Repeat([]api.Node{n}, 200000)
		if labels, effects := spots.Of(body); labels != nil || effects != nil {
			t.Errorf("Of 200000 nodes of kind %d: %d; %d", n.Kind, len(labels), len(effects))
		}
		for _, l := range [][]api.Term{nil, many[:1], many} {
			if other, e := spots.Put(body, l, many); other != nil || e != api.ErrForm {
				t.Errorf("Put of 200000 nodes of kind %d: %d, %v", n.Kind, len(other), e)
			}
		}
	}
	for _, body := range [][]api.Node{i0, fun(i0, i0), wide()} {
		labels, effects := want(body)
		l, x := termsAt(labels), termsAt(effects)
		for i, c := range [][2][]api.Term{{many, many}, {many, x}, {l, many}, {many, nil}, {nil, many}} {
			if other, e := spots.Put(body, c[0], c[1]); other != nil || e != api.ErrArg {
				t.Errorf("Put(%v) of far too many terms, %d: %d, %v", body, i, len(other), e)
			}
		}
	}
}

// R4

// roomy: a list with spare room behind it, as whole (l and its room) and as l.
func roomy[T any](l []T, room int, spare T) (whole, part []T) {
	whole = slices.Clip(slices.Concat(l, slices.Repeat([]T{spare}, room)))
	return whole, whole[:len(l)]
}

// all: bodies that may be, and rows that are none.
func all() [][]api.Node {
	l := bodies()
	for _, body := range notBodies() {
		l = append(l, body)
	}
	return l
}

func TestWhatIsHandedInStaysAsItWas(t *testing.T) {
	for _, body := range all() {
		labels, effects := want(body)
		for _, room := range []int{0, 1, 9, 200} {
			nodes, part := roomy(body, room, api.Node{Kind: 77, Name: "room", Kids: 5, L: api.Term{Var: true, N: 8}})
			l, lPart := roomy(numbered(len(labels), 100), room, api.Term{N: 9})
			x, xPart := roomy(numbered(len(effects), 500), room, api.Term{N: 7})
			wasNodes, wasL, wasX := slices.Clone(nodes), slices.Clone(l), slices.Clone(x)
			spots.Of(part)
			spots.Put(part, lPart, xPart)
			spots.Put(part, l, x)
			spots.Put(part, xPart, lPart)
			if !slices.Equal(nodes, wasNodes) || !slices.Equal(l, wasL) || !slices.Equal(x, wasX) {
				t.Fatalf("%v, %v, %v, with room for %d, became %v, %v, %v", wasNodes, wasL, wasX, room, nodes, l, x)
			}
		}
	}
}

// TestSpareRoomIsNotRead: nodes and terms that are missing stand in it.
func TestSpareRoomIsNotRead(t *testing.T) {
	for _, body := range bodies() {
		for end := range body {
			isNot(t, "a body cut off, with all of it behind", body[:end])
		}
		for _, spare := range row(i0, no, t9) {
			_, part := roomy(body, 130, spare)
			is(t, "a body with room", part)
		}
		labels, effects := want(body)
		l, x := numbered(len(labels), 0), numbered(len(effects), 0)
		for end := range l {
			if other, e := spots.Put(body, l[:end], x); other != nil || e != api.ErrArg {
				t.Fatalf("Put(%v) of %d labels, with all behind: %v, %v", body, end, other, e)
			}
		}
		for end := range x {
			if other, e := spots.Put(body, l, x[:end]); other != nil || e != api.ErrArg {
				t.Fatalf("Put(%v) of %d effects, with all behind: %v, %v", body, end, other, e)
			}
		}
	}
}

// scribble: writes other values over a list and its spare room.
func scribble[T any](l []T, over T) {
	l = l[:cap(l)]
	for i := range l {
		l[i] = over
	}
}

// TestAnswersAreMemoryOfTheirOwn: their spare room too.
func TestAnswersAreMemoryOfTheirOwn(t *testing.T) {
	spot := api.Spot{Node: -5, Part: 9, Side: 9, T: api.Term{N: 5}}
	node := api.Node{Kind: 99, Name: "other", L: api.Term{N: 6}}
	for _, was := range bodies() {
		body := slices.Clone(was)
		wantLabels, wantEffects := want(body)
		labels, effects := spots.Of(body)
		labelsAgain, effectsAgain := spots.Of(body)
		scribble(labels, spot)
		if !slices.Equal(effects, wantEffects) || !slices.Equal(labelsAgain, wantLabels) {
			t.Fatalf("Of(%v): what was written over spots of labels stands in another list", body)
		}
		scribble(effects, spot)
		if !slices.Equal(effectsAgain, wantEffects) || !slices.Equal(body, was) {
			t.Fatalf("Of(%v): what was written over spots of effects stands in another list", body)
		}
		is(t, "a body whose spots were written over", body)

		l, x := numbered(len(wantLabels), 100), numbered(len(wantEffects), 500)
		w := withTerms(body, l, x)
		one, other := put(t, "once", body, l, x), put(t, "again", body, l, x)
		scribble(one, node)
		if !slices.Equal(other, w) || !slices.Equal(body, was) {
			t.Fatalf("Put(%v): what was written over one answer stands in another list", body)
		}
		wasL, wasX := slices.Clone(l), slices.Clone(x)
		scribble(other, node)
		if !slices.Equal(body, was) || !slices.Equal(l, wasL) || !slices.Equal(x, wasX) {
			t.Fatalf("Put(%v): what was written over an answer stands in what was handed in", body)
		}
		// Nor does an answer hang on what becomes of what was handed in.
		again := put(t, "a last time", body, l, x)
		labels, effects = spots.Of(body)
		scribble(l, api.Term{})
		scribble(x, api.Term{})
		scribble(body, node)
		if !slices.Equal(again, w) || !slices.Equal(labels, wantLabels) || !slices.Equal(effects, wantEffects) {
			t.Fatalf("%v: answers became other ones with what was handed in", was)
		}
	}
}

func TestEmptyAndNilMeanTheSame(t *testing.T) {
	for _, none := range [][]api.Node{nil, {}, make([]api.Node, 0, 5), i0[:0], fun(i0, i0)[1:1]} {
		isNot(t, "no nodes", none)
	}
	for _, none := range [][]api.Term{nil, {}, make([]api.Term, 0, 5), numbered(3, 0)[:0]} {
		for _, body := range [][]api.Node{i0, tuple(t0, ref(n0))} {
			labels, _ := want(body)
			put(t, "no effects", body, numbered(len(labels), 3), none)
			if other, e := spots.Put(body, none, none); other != nil || e != api.ErrArg {
				t.Errorf("Put(%v) of no terms: %v, %v", body, other, e)
			}
		}
		for _, l := range [][]api.Term{none, numbered(4, 0)} {
			if other, e := spots.Put(fun(i0, i0), l, none); other != nil || e != api.ErrArg {
				t.Errorf("Put of no effects at a function: %v, %v", other, e)
			}
		}
		if other, e := spots.Put(fun(i0, i0), none, numbered(1, 0)); other != nil || e != api.ErrArg {
			t.Errorf("Put of no labels at a function: %v, %v", other, e)
		}
		if other, e := spots.Put(nil, none, none); other != nil || e != api.ErrForm {
			t.Errorf("Put of no terms at no nodes: %v, %v", other, e)
		}
	}
}

// R5

func TestAnswersHangOnArgumentsAlone(t *testing.T) {
	l := all()
	var done sync.WaitGroup
	for worker := range 8 {
		done.Go(func() {
			for i := range l {
				body := l[(i*5+worker*31)%len(l)]
				wantLabels, wantEffects := want(body)
				labels, effects := spots.Of(body)
				if !slices.Equal(labels, wantLabels) || !slices.Equal(effects, wantEffects) {
					t.Errorf("%v, beside others: Of: %v; %v", body, labels, effects)
				}
				w := api.OK
				if len(labels) == 0 {
					w = api.ErrForm
				}
				if other, e := spots.Put(body, termsAt(wantLabels), termsAt(wantEffects)); e != w || w == api.OK && !slices.Equal(other, body) {
					t.Errorf("%v, beside others: Put: %v, %v", body, other, e)
				}
			}
		})
	}
	done.Wait()
}
