package schemes_test

import (
	"math"
	"slices"
	"strings"
	"sync"
	"testing"

	"cartouche/api"
	"cartouche/bounds"
	"cartouche/effects"
	"cartouche/lattices"
	"cartouche/schemes"
	"cartouche/types"
)

// A sort is one that is handed in, and what the tests know of it by themselves.
type sort struct {
	s     bounds.Sort
	few   []uint64 // some of its values; none, if it has none
	other []uint64 // some that are none of its values
	has   func(a uint64) bool
}

// labels: so many of them, each below all behind it.
func labels(n int) sort {
	var rows []uint64
	for i := range n {
		rows = append(rows, (1<<n-1)&^(1<<i-1))
	}
	l, e := lattices.New(rows)
	if e != api.OK {
		panic("labels")
	}
	return sort{
		s: l, few: []uint64{0, uint64(n) - 1, uint64(n) / 2},
		other: []uint64{uint64(n), uint64(n) + 1, 1 << 32, 1 << 63, math.MaxUint64},
		has:   func(a uint64) bool { return a < uint64(n) },
	}
}

// sets: those of so many effects.
func sets(n int) sort {
	x, e := effects.New(n)
	if e != api.OK {
		panic("sets")
	}
	all := uint64(1)<<n - 1
	k := sort{s: x, few: []uint64{0, all, all & 0x5555555555555555, all &^ 1}, has: func(a uint64) bool { return a&^all == 0 }}
	if n < 64 {
		k.other = []uint64{1 << n, 1<<n | all, 1 << 63, math.MaxUint64}
	}
	return k
}

// nothing: sorts that have no values: none that is there, or that a call made.
func nothing() (all []sort) {
	for _, s := range []bounds.Sort{nil, (*lattices.Lattice)(nil), (*effects.Effects)(nil), new(lattices.Lattice), new(effects.Effects)} {
		all = append(all, sort{s: s, other: []uint64{0, 1, 64, math.MaxUint64}, has: func(uint64) bool { return false }})
	}
	return all
}

// A world is the two sorts that a call is asked with.
type world struct {
	name string
	l, x sort
}

// few: labels 0 to 3, and sets of one effect: 2 and 3 are labels alone. many: labels 0 and 1, and sets of three effects: 2 to 7 are sets alone.
func few() world  { return world{"four labels, one effect", labels(4), sets(1)} }
func many() world { return world{"two labels, three effects", labels(2), sets(3)} }

func worlds() []world {
	all := []world{
		few(), many(),
		{"one label, no effects", labels(1), sets(0)},
		{"one label, 64 effects", labels(1), sets(64)},
		{"64 labels, no effects", labels(64), sets(0)},
		{"64 labels, 64 effects", labels(64), sets(64)},
		{"63 labels, 63 effects", labels(63), sets(63)},
		{"sets for labels, labels for effects", sets(2), labels(3)},
		{"labels twice", labels(5), labels(2)},
	}
	for _, none := range nothing() {
		all = append(all, world{"nothing", none, none}, world{"labels alone", labels(2), none}, world{"effects alone", none, sets(2)})
	}
	return all
}

func v(n uint64) api.Term { return api.Term{Var: true, N: n} }
func c(n uint64) api.Term { return api.Term{N: n} }

// below: bounds, each of two terms that stand behind one another.
func below(terms ...api.Term) (l []api.Bound) {
	for i := 0; i < len(terms); i += 2 {
		l = append(l, api.Bound{A: terms[i], B: terms[i+1]})
	}
	return l
}

// Types, by their labels, PC and effects.

func anInt(label api.Term) []api.Node {
	return []api.Node{{Kind: api.KdBase, Name: "int", L: label}}
}

func named(label api.Term) []api.Node {
	return []api.Node{{Kind: api.KdNamed, Mod: 1, Name: "t", L: label}}
}

func tuple(label api.Term, parts ...[]api.Node) []api.Node {
	return slices.Concat([]api.Node{{Kind: api.KdTuple, Kids: len(parts), L: label}}, slices.Concat(parts...))
}

func ref(label api.Term, part []api.Node) []api.Node {
	return slices.Concat([]api.Node{{Kind: api.KdRef, Kids: 1, L: label}}, part)
}

func fun(label, pc, set api.Term, argument, result []api.Node) []api.Node {
	return slices.Concat([]api.Node{{Kind: api.KdFun, Kids: 2, L: label, PC: pc, E: set}}, argument, result)
}

// plain: a function whose own terms are noughts.
func plain(argument, result []api.Node) []api.Node { return fun(c(0), c(0), c(0), argument, result) }

// wide: a body of as many nodes as may be, of them as many functions as can be, below a tuple; its terms are noughts.
func wide() []api.Node {
	body := anInt(c(0))
	for range 6 {
		body = plain(body, body)
	}
	return tuple(c(0), body)
}

// deep: a body of as many refs below one another as may be.
func deep(refs int) []api.Node {
	body := anInt(c(0))
	for range refs {
		body = ref(c(0), body)
	}
	return body
}

// shapes: bodies in which each kind of node stands first, last and between others; their terms are noughts.
func shapes() [][]api.Node {
	i, n, none := anInt(c(0)), named(c(0)), tuple(c(0))
	return [][]api.Node{
		i, n, none, ref(c(0), i), plain(i, i), tuple(c(0), i, n),
		tuple(c(0), n, plain(n, i), none), tuple(c(0), plain(i, n), plain(n, none)),
		plain(plain(i, n), ref(c(0), none)), plain(ref(c(0), plain(none, i)), plain(i, n)),
		ref(c(0), tuple(c(0), plain(i, i), i)), ref(c(0), ref(c(0), plain(n, tuple(c(0), i, i)))),
		deep(15), wide(),
	}
}

// A hole is where a body's term stands.
type hole struct {
	node int
	part api.Part
}

// holes: those of labels, and of effects, of a body that may be.
func holes(body []api.Node) (l, x []hole) {
	for at, n := range body {
		l = append(l, hole{at, api.PaLabel})
		if n.Kind == api.KdFun {
			l, x = append(l, hole{at, api.PaPC}), append(x, hole{at, api.PaEffect})
		}
	}
	return l, x
}

// in: the term that stands there; of the body itself, not of a copy.
func (h hole) in(body []api.Node) *api.Term {
	return []*api.Term{api.PaLabel: &body[h.node].L, api.PaPC: &body[h.node].PC, api.PaEffect: &body[h.node].E}[h.part]
}

// put: the body, with that term there.
func (h hole) put(body []api.Node, term api.Term) []api.Node {
	other := slices.Clone(body)
	*h.in(other) = term
	return other
}

// filled: the body, with that term at each spot of labels, and this one at each of effects.
func filled(body []api.Node, label, effect api.Term) []api.Node {
	other := slices.Clone(body)
	l, x := holes(body)
	for _, h := range l {
		*h.in(other) = label
	}
	for _, h := range x {
		*h.in(other) = effect
	}
	return other
}

// notBodies: rows of nodes that are no body, by what types.Check tells of them.
func notBodies() map[api.Errno][][]api.Node {
	i := anInt(c(0))
	return map[api.Errno][][]api.Node{
		api.ErrArg: {nil, {}},
		api.ErrLimit: {
			tuple(c(0), i, wide()[1:]), slices.Repeat(i, 1000), deep(16), tuple(c(0), slices.Repeat([][]api.Node{i}, 9)...),
			slices.Repeat([]api.Node{{Kind: 9}}, 129),
		},
		api.ErrForm: {
			{{}}, {{Kind: 6}}, slices.Repeat(i, 2), plain(i, i)[:2], ref(c(0), i)[:1], append(plain(i, i), i...),
			{{Kind: api.KdBase, Name: "Int"}}, {{Kind: api.KdNamed, Name: "1"}}, {{Kind: api.KdNamed, Name: "t", Mod: 17}},
			{{Kind: api.KdTuple, Kids: -1}}, {{Kind: api.KdTuple, Kids: math.MinInt}}, {{Kind: api.KdTuple, Name: "t"}},
		},
	}
}

// What the tests ask for is worked out node by node, and of terms themselves; the program asks layers below of spots, and of bounds.

// may: whether a term may stand where there are so many variables of a sort.
func (k sort) may(vars int, term api.Term) bool {
	if term.Var {
		return vars > 0 && term.N <= uint64(vars-1)
	}
	return k.has(term.N)
}

// bounded: what is to be told of one sort's bounds.
func (k sort) bounded(vars int, l []api.Bound) api.Errno {
	if vars < 0 || vars > 64 || len(l) > 256 {
		return api.ErrLimit
	}
	for _, b := range l {
		if !k.may(vars, b.A) || !k.may(vars, b.B) {
			return api.ErrArg
		}
	}
	return api.OK
}

// check: what Check is to tell.
func (w world) check(s api.Scheme) api.Errno {
	for _, e := range []api.Errno{types.Check(s.Body), w.l.bounded(s.LVars, s.L), w.x.bounded(s.EVars, s.E)} {
		if e != api.OK {
			return e
		}
	}
	for _, n := range s.Body {
		if !w.l.may(s.LVars, n.L) || n.Kind == api.KdFun && (!w.l.may(s.LVars, n.PC) || !w.x.may(s.EVars, n.E)) {
			return api.ErrArg
		}
	}
	return api.OK
}

// ground: what Ground is to tell.
func ground(s api.Scheme, l, x []uint64) ([]api.Node, api.Errno) {
	if e := types.Check(s.Body); e != api.OK {
		return nil, e
	}
	if len(l) != s.LVars || len(x) != s.EVars {
		return nil, api.ErrArg
	}
	var body []api.Node
	for _, n := range s.Body {
		terms, from := []*api.Term{&n.L}, [][]uint64{l}
		if n.Kind == api.KdFun {
			terms, from = append(terms, &n.PC, &n.E), append(from, l, x)
		}
		for i, term := range terms {
			if !term.Var {
				continue
			}
			if term.N >= uint64(len(from[i])) {
				return nil, api.ErrArg
			}
			*term = c(from[i][term.N])
		}
		body = append(body, n)
	}
	return body, api.OK
}

// is holds Check against what it is to tell.
func (w world) is(t *testing.T, name string, s api.Scheme) api.Errno {
	t.Helper()
	e := w.check(s)
	w.told(t, name, s, e)
	return e
}

// told holds Check against what is written there.
func (w world) told(t *testing.T, name string, s api.Scheme, want api.Errno) {
	t.Helper()
	if e := schemes.Check(s, w.l.s, w.x.s); e != want {
		t.Fatalf("%s, %s: Check(%v): %v, want %v", w.name, name, s, e, want)
	}
}

// grounded holds Ground against what it is to tell.
func grounded(t *testing.T, name string, s api.Scheme, l, x []uint64) ([]api.Node, api.Errno) {
	t.Helper()
	body, e := ground(s, l, x)
	toldGround(t, name, s, l, x, body, e)
	return body, e
}

// toldGround holds Ground against what is written there.
func toldGround(t *testing.T, name string, s api.Scheme, l, x []uint64, want []api.Node, wantE api.Errno) {
	t.Helper()
	if body, e := schemes.Ground(s, l, x); e != wantE || !slices.Equal(body, want) {
		t.Fatalf("%s: Ground(%v: %v, %v): %v, %v, want %v, %v", name, s, l, x, body, e, want, wantE)
	}
}

// A source tells numbers with no rule to be seen in them, the same ones each time.
type source uint64

// below: the next one, below n.
func (s *source) below(n int) int {
	*s = *s*6364136223846793005 + 1442695040888963407
	return int(*s >> 33 % source(n))
}

// term: one that may stand where there are so many variables of a sort, if there is any.
func (s *source) term(k sort, vars int) api.Term {
	if vars > 0 && (len(k.few) == 0 || s.below(3) > 0) {
		return v(uint64(s.below(vars)))
	}
	if len(k.few) == 0 {
		return c(0)
	}
	return c(k.few[s.below(len(k.few))])
}

// bad: one that may not stand there, if there is any.
func (s *source) bad(k sort, vars int) api.Term {
	if len(k.other) == 0 || s.below(2) == 0 {
		return v(uint64(vars + s.below(3)))
	}
	return c(k.other[s.below(len(k.other))])
}

// bounds: such as may be.
func (s *source) bounds(k sort, vars, n int) (l []api.Bound) {
	for range n {
		l = append(l, api.Bound{A: s.term(k, vars), B: s.term(k, vars)})
	}
	return l
}

// shape: a body that may be, if it has no more than 128 nodes; its terms are noughts.
func (s *source) shape(depth int) []api.Node {
	kind := s.below(8)
	if depth < 2 {
		kind = s.below(2)
	}
	switch kind {
	case 0:
		return anInt(c(0))
	case 1:
		return named(c(0))
	case 2, 3:
		var parts [][]api.Node
		for range s.below(5) {
			parts = append(parts, s.shape(depth-1))
		}
		return tuple(c(0), parts...)
	case 4:
		return ref(c(0), s.shape(depth-1))
	}
	return plain(s.shape(depth-1), s.shape(depth-1))
}

// scheme: one that may be, where both sorts have values.
func (s *source) scheme(w world) api.Scheme {
	k := api.Scheme{LVars: s.below(5), EVars: s.below(5)}
	k.L, k.E = s.bounds(w.l, k.LVars, s.below(4)), s.bounds(w.x, k.EVars, s.below(4))
	for k.Body = s.shape(2 + s.below(6)); len(k.Body) > 128; {
		k.Body = s.shape(4)
	}
	l, x := holes(k.Body)
	for _, h := range l {
		*h.in(k.Body) = s.term(w.l, k.LVars)
	}
	for _, h := range x {
		*h.in(k.Body) = s.term(w.x, k.EVars)
	}
	return k
}

// copied: the scheme, of which no list is shared.
func copied(s api.Scheme) api.Scheme {
	s.Body, s.L, s.E = slices.Clone(s.Body), slices.Clone(s.L), slices.Clone(s.E)
	return s
}

// values: so many of them, of no sort there may be, no two the same.
func values(n int, from uint64) (l []uint64) {
	for i := range n {
		l = append(l, from+uint64(i))
	}
	return l
}

// The chapter's examples.

func TestExamples(t *testing.T) {
	w := world{"0 below 1", labels(2), sets(0)}
	s := api.Scheme{LVars: 1, Body: anInt(v(0))}
	w.told(t, "example", s, api.OK)
	w.told(t, "example", api.Scheme{Body: anInt(v(0))}, api.ErrArg)
	toldGround(t, "example", s, []uint64{1}, nil, anInt(c(1)), api.OK)
	toldGround(t, "example", s, nil, nil, nil, api.ErrArg)
	toldGround(t, "example", s, []uint64{7}, nil, anInt(c(7)), api.OK)
}

// P12.1, P12.2: which error is told first

// TestBodiesThatMayNotBe: whatever else may not be either.
func TestBodiesThatMayNotBe(t *testing.T) {
	for want, rows := range notBodies() {
		for _, body := range rows {
			for _, w := range worlds() {
				for _, rest := range []api.Scheme{
					{}, {LVars: 1, EVars: 2}, {LVars: -1}, {LVars: 65}, {EVars: 65}, {EVars: math.MinInt},
					{L: below(v(0), c(99))}, {E: below(v(7), v(7))}, {L: slices.Repeat(below(c(0), c(0)), 257)}, {E: slices.Repeat(below(v(0), c(0)), 300)},
				} {
					rest.Body = body
					w.told(t, "no body", rest, want)
					for n := range 3 {
						toldGround(t, "no body", rest, values(n, 0), values(2-n, 0), nil, want)
					}
				}
			}
		}
	}
}

// TestWhichErrorIsToldFirst: all faults, beside each other one.
func TestWhichErrorIsToldFirst(t *testing.T) {
	type part struct {
		vars int
		l    []api.Bound
		e    api.Errno
	}
	parts := []part{
		{1, nil, api.OK}, {1, below(v(0), c(0)), api.OK}, {1, below(v(0), v(1)), api.ErrArg}, {1, below(c(8), c(0)), api.ErrArg},
		{-1, nil, api.ErrLimit}, {65, below(v(0), v(0)), api.ErrLimit}, {-1, below(c(8), c(0)), api.ErrLimit}, {1, slices.Repeat(below(v(0), c(0)), 257), api.ErrLimit}, {1, slices.Repeat(below(v(1), c(8)), 257), api.ErrLimit},
	}
	bodies := []struct {
		body []api.Node
		e    api.Errno
	}{
		{fun(v(0), c(0), v(0), anInt(c(0)), anInt(c(1))), api.OK},
		{fun(v(99), c(0), v(0), anInt(c(0)), anInt(c(1))), api.ErrArg}, {fun(v(0), c(8), v(0), anInt(c(0)), anInt(c(1))), api.ErrArg},
		{fun(v(0), c(0), v(0), anInt(c(0)), anInt(c(8))), api.ErrArg}, {fun(v(0), c(0), c(8), anInt(c(0)), anInt(c(1))), api.ErrArg},
		{fun(v(99), c(0), v(99), anInt(c(0)), anInt(c(1))), api.ErrArg},
	}
	w := many()
	for _, l := range parts {
		for _, x := range parts {
			for _, body := range bodies {
				want := body.e
				switch {
				case l.e != api.OK:
					want = l.e
				case x.e != api.OK:
					want = x.e
				}
				s := api.Scheme{LVars: l.vars, L: l.l, EVars: x.vars, E: x.l, Body: body.body}
				w.told(t, "faults beside one another", s, want)
				if w.check(s) != want {
					t.Fatalf("%v: the tests themselves tell something else", s)
				}
			}
		}
	}
}

// P12.1

// TestHowManyVariablesThereAre: of both sorts, where none is named.
func TestHowManyVariablesThereAre(t *testing.T) {
	counts := []int{math.MinInt, math.MinInt32, -65, -64, -2, -1, 0, 1, 2, 63, 64, 65, 66, 128, 256, 1 << 32, math.MaxInt - 1, math.MaxInt}
	for _, w := range []world{few(), many()} {
		for _, l := range counts {
			for _, x := range counts {
				want := api.OK
				if l < 0 || l > 64 || x < 0 || x > 64 {
					want = api.ErrLimit
				}
				for _, body := range [][]api.Node{anInt(c(1)), plain(anInt(c(0)), named(c(1)))} {
					w.told(t, "no variables named", api.Scheme{LVars: l, EVars: x, Body: body}, want)
				}
			}
		}
	}
}

// TestNoEffectsAreAskedWhereNoneStand: nor labels, but at spots and in bounds.
func TestNoEffectsAreAskedWhereNoneStand(t *testing.T) {
	for _, none := range nothing() {
		w := world{"labels alone", labels(2), none}
		w.told(t, "no function", api.Scheme{Body: tuple(c(0), anInt(c(1)))}, api.OK)
		w.told(t, "no function, variables", api.Scheme{EVars: 64, E: below(v(0), v(63)), Body: anInt(c(1))}, api.OK)
		w.told(t, "a variable's effect", api.Scheme{EVars: 1, Body: fun(c(0), c(0), v(0), anInt(c(0)), anInt(c(0)))}, api.OK)
		w.told(t, "a constant's effect", api.Scheme{EVars: 1, Body: plain(anInt(c(0)), anInt(c(0)))}, api.ErrArg)
		w.told(t, "a bound's constant", api.Scheme{EVars: 1, E: below(v(0), c(0)), Body: anInt(c(0))}, api.ErrArg)
		w = world{"nothing", none, none}
		w.told(t, "variables alone", api.Scheme{LVars: 2, EVars: 1, L: below(v(0), v(1)), Body: fun(v(0), v(1), v(0), anInt(v(1)), anInt(v(0)))}, api.OK)
		w.told(t, "a constant's label", api.Scheme{LVars: 2, EVars: 1, Body: fun(v(0), v(1), v(0), anInt(v(1)), anInt(c(0)))}, api.ErrArg)
	}
}

func TestHowManyBoundsThereAre(t *testing.T) {
	w := few()
	for _, n := range []int{0, 1, 255, 256, 257, 258, 600} {
		for _, m := range []int{0, 1, 255, 256, 257, 600} {
			want := api.OK
			if n > 256 || m > 256 {
				want = api.ErrLimit
			}
			l, x := slices.Repeat(below(v(0), c(3)), n), slices.Repeat(below(c(1), v(1)), m)
			w.told(t, "many bounds", api.Scheme{LVars: 1, EVars: 2, L: l, E: x, Body: anInt(c(3))}, want)
		}
	}
}

// TestBoundsThatMayNotBe: a term in each place of a bound, first and last, of each sort.
func TestBoundsThatMayNotBe(t *testing.T) {
	for _, w := range worlds() {
		for _, vars := range [][2]int{{1, 3}, {3, 1}, {0, 2}, {2, 0}, {64, 1}} {
			l, x := vars[0], vars[1]
			for n := range uint64(66) {
				for _, term := range []api.Term{v(n), c(n), c(1 << n), v(1 << n)} {
					for _, b := range [][]api.Bound{below(term, term), below(term, v(0)), below(v(0), term), below(v(0), v(0), v(0), term), below(term, v(0), v(0), v(0))} {
						w.is(t, "bounds of labels", api.Scheme{LVars: l, EVars: x, L: b, Body: named(v(0))})
						w.is(t, "bounds of effects", api.Scheme{LVars: l, EVars: x, E: b, Body: named(v(0))})
						w.is(t, "bounds of both", api.Scheme{LVars: l, EVars: x, L: b, E: b, Body: named(v(0))})
					}
				}
			}
		}
	}
}

// TestBoundsOfOneSortAreNotThoseOfTheOther: a constant, or a variable, that just one sort has.
func TestBoundsOfOneSortAreNotThoseOfTheOther(t *testing.T) {
	body := anInt(c(0))
	for _, l := range [][]api.Bound{below(c(3), c(3)), below(v(1), v(1)), below(v(0), c(2))} {
		few().told(t, "labels", api.Scheme{LVars: 2, EVars: 1, L: l, Body: body}, api.OK)
		few().told(t, "effects", api.Scheme{LVars: 2, EVars: 1, E: l, Body: body}, api.ErrArg)
		many().told(t, "labels", api.Scheme{LVars: 1, EVars: 2, L: l, Body: body}, api.ErrArg)
		many().told(t, "effects", api.Scheme{LVars: 1, EVars: 2, E: l, Body: body}, api.OK)
	}
	// Bounds that no values hold of may be.
	few().told(t, "bounds of no values", api.Scheme{LVars: 1, L: below(c(3), c(0), c(1), v(0), v(0), c(0)), E: below(c(1), c(0)), Body: body}, api.OK)
}

// TestATermAtEachSpot: of labels and of effects, one that may stand there, and one that may not, among others that may.
func TestATermAtEachSpot(t *testing.T) {
	terms := []api.Term{v(1 << 32), c(1 << 32), v(1 << 63), v(math.MaxUint64), c(math.MaxUint64)}
	for n := range uint64(9) {
		terms = append(terms, v(n), c(n))
	}
	for n := uint64(62); n < 66; n++ {
		terms = append(terms, v(n), c(n))
	}
	counts := map[api.Errno]int{}
	for _, w := range []world{few(), many()} {
		for _, vars := range [][2]int{{3, 1}, {1, 3}, {0, 0}, {0, 64}, {64, 0}, {64, 64}} {
			for _, body := range shapes() {
				l, x := holes(body)
				for i, h := range append(slices.Clone(l), x...) {
					k, count := w.l, vars[0]
					if i >= len(l) {
						k, count = w.x, vars[1]
					}
					for _, term := range terms {
						want := api.ErrArg
						if term.Var && term.N < uint64(count) || !term.Var && k.has(term.N) {
							want = api.OK
						}
						w.told(t, "a term at a spot", api.Scheme{LVars: vars[0], EVars: vars[1], Body: h.put(body, term)}, want)
						counts[want]++
					}
				}
			}
		}
	}
	if counts[api.OK] < 10000 || counts[api.ErrArg] < 10000 {
		t.Errorf("schemes, by what is told: %v", counts)
	}
}

// TestTermsOfOneSortAreNotThoseOfTheOther: all spots of labels, all of effects.
func TestTermsOfOneSortAreNotThoseOfTheOther(t *testing.T) {
	for _, body := range shapes() {
		_, x := holes(body)
		whole := func(w world, l, e int, label, effect api.Term, labelMay, effectMay bool) {
			want := api.OK
			if !labelMay || !effectMay && len(x) > 0 {
				want = api.ErrArg
			}
			w.told(t, "all spots", api.Scheme{LVars: l, EVars: e, Body: filled(body, label, effect)}, want)
		}
		whole(few(), 1, 1, c(3), c(1), true, true)
		whole(few(), 1, 1, c(1), c(3), true, false)
		whole(few(), 1, 1, c(4), c(1), false, true)
		whole(many(), 1, 1, c(1), c(7), true, true)
		whole(many(), 1, 1, c(7), c(1), false, true)
		whole(many(), 1, 1, c(1), c(8), true, false)
		whole(few(), 3, 1, v(2), v(0), true, true)
		whole(few(), 3, 1, v(0), v(1), true, false)
		whole(few(), 3, 1, v(2), v(2), true, false)
		whole(few(), 1, 3, v(0), v(2), true, true)
		whole(few(), 1, 3, v(1), v(0), false, true)
		whole(few(), 1, 3, v(2), v(2), false, true)
		whole(few(), 64, 64, v(63), v(63), true, true)
		whole(few(), 63, 64, v(63), v(63), false, true)
		whole(few(), 64, 63, v(63), v(63), true, false)
		whole(few(), 64, 64, v(64), v(63), false, true)
	}
}

// TestTheWidestBody: it has as many spots as there can be; one of them may not be, or the bounds are as many as may be too.
func TestTheWidestBody(t *testing.T) {
	w := few()
	body := filled(wide(), v(63), v(62))
	l, x := holes(body)
	if len(l) != 191 || len(x) != 63 {
		t.Fatalf("%d spots of labels, %d of effects", len(l), len(x))
	}
	s := api.Scheme{LVars: 64, EVars: 63, L: slices.Repeat(below(v(63), c(3)), 256), E: slices.Repeat(below(c(1), v(62)), 256), Body: body}
	w.told(t, "the widest body", s, api.OK)
	for _, h := range append(l, x...) {
		s.Body = h.put(body, v(64))
		w.told(t, "the widest body, a variable above", s, api.ErrArg)
		s.Body = h.put(body, c(4))
		w.told(t, "the widest body, a constant of no sort", s, api.ErrArg)
	}
}

// TestTermsWhereNoSpotIs: a PC or an effect of what is no function.
func TestTermsWhereNoSpotIs(t *testing.T) {
	w := few()
	for _, body := range shapes() {
		for at, n := range body {
			if n.Kind == api.KdFun {
				continue
			}
			for _, part := range []api.Part{api.PaPC, api.PaEffect} {
				for _, term := range []api.Term{c(1), v(0), v(1), c(9), c(math.MaxUint64), v(math.MaxUint64)} {
					s := api.Scheme{LVars: 2, EVars: 2, Body: hole{at, part}.put(body, term)}
					w.told(t, "a term where no spot is", s, api.ErrForm)
					toldGround(t, "a term where no spot is", s, []uint64{0, 1}, []uint64{0, 1}, nil, api.ErrForm)
				}
			}
		}
	}
	// A nought that stands there is no constant, even where its sort has none.
	for _, none := range nothing() {
		w := world{"no effects", labels(1), none}
		w.told(t, "noughts where no spot is", api.Scheme{Body: tuple(c(0), ref(c(0), anInt(c(0))))}, api.OK)
	}
}

// faulty: the scheme with something about it that may not be, or nothing.
func (s *source) faulty(w world, k api.Scheme) api.Scheme {
	l, x := holes(k.Body)
	switch s.below(8) {
	case 0:
		k.Body = l[s.below(len(l))].put(k.Body, s.bad(w.l, k.LVars))
	case 1:
		if len(x) > 0 {
			k.Body = x[s.below(len(x))].put(k.Body, s.bad(w.x, k.EVars))
		}
	case 2:
		k.L = append(k.L, below(s.bad(w.l, k.LVars), s.term(w.l, k.LVars))...)
	case 3:
		k.E = append(below(s.term(w.x, k.EVars), s.bad(w.x, k.EVars)), k.E...)
	case 4:
		k.Body = k.Body[:s.below(len(k.Body))]
	case 5:
		k.LVars--
	case 6:
		k.EVars--
	}
	return k
}

func TestAnySchemes(t *testing.T) {
	counts := map[api.Errno]int{}
	for i, w := range worlds() {
		s := source(i)
		for range 1500 {
			k := s.scheme(w)
			counts[w.is(t, "any scheme", k)]++
			k = s.faulty(w, k)
			counts[w.is(t, "any scheme, with a fault", k)]++
			k = s.faulty(w, mended(k))
			counts[w.is(t, "any scheme, with faults", k)]++
		}
	}
	for _, e := range []api.Errno{api.OK, api.ErrArg, api.ErrForm, api.ErrLimit} {
		if counts[e] < 100 {
			t.Errorf("schemes, by what is told: %v", counts)
		}
	}
}

// mended: that scheme, or, if its body is cut off, one of an int.
func mended(k api.Scheme) api.Scheme {
	if types.Check(k.Body) != api.OK {
		k.Body = anInt(c(0))
	}
	return k
}

// P12.2

func TestGroundOfWrittenSchemes(t *testing.T) {
	big := uint64(math.MaxUint64)
	for _, r := range []struct {
		name string
		s    api.Scheme
		l, x []uint64
		want []api.Node
	}{
		{"constants alone", api.Scheme{Body: fun(c(1), c(2), c(3), anInt(c(4)), ref(c(5), named(c(6))))}, nil, nil, fun(c(1), c(2), c(3), anInt(c(4)), ref(c(5), named(c(6))))},
		{"each one its own", api.Scheme{LVars: 4, EVars: 1, Body: fun(v(0), v(1), v(0), anInt(v(2)), named(v(3)))}, []uint64{10, 11, 12, 13}, []uint64{20}, fun(c(10), c(11), c(20), anInt(c(12)), named(c(13)))},
		{"turned", api.Scheme{LVars: 4, EVars: 2, Body: fun(v(3), v(2), v(1), anInt(v(1)), named(v(0)))}, []uint64{10, 11, 12, 13}, []uint64{20, 21}, fun(c(13), c(12), c(21), anInt(c(11)), named(c(10)))},
		{"one at all spots", api.Scheme{LVars: 1, EVars: 1, Body: fun(v(0), v(0), v(0), anInt(v(0)), tuple(v(0), anInt(v(0))))}, []uint64{5}, []uint64{9}, fun(c(5), c(5), c(9), anInt(c(5)), tuple(c(5), anInt(c(5))))},
		{"constants among them", api.Scheme{LVars: 1, EVars: 1, Body: tuple(c(0), anInt(v(0)), plain(ref(v(0), anInt(c(7))), fun(c(8), v(0), v(0), anInt(c(9)), anInt(c(0)))))}, []uint64{3}, []uint64{4}, tuple(c(0), anInt(c(3)), plain(ref(c(3), anInt(c(7))), fun(c(8), c(3), c(4), anInt(c(9)), anInt(c(0)))))},
		{"constants of a variable's number", api.Scheme{LVars: 2, EVars: 2, Body: fun(c(0), c(1), c(0), anInt(c(1)), anInt(v(1)))}, []uint64{6, 7}, []uint64{8, 9}, fun(c(0), c(1), c(0), anInt(c(1)), anInt(c(7)))},
		{"no spot names one", api.Scheme{LVars: 3, EVars: 2, Body: anInt(v(1))}, []uint64{6, 7, 8}, []uint64{8, 9}, anInt(c(7))},
		{"values of no sort", api.Scheme{LVars: 2, EVars: 1, Body: fun(v(0), v(1), v(0), anInt(c(big)), anInt(c(1<<63)))}, []uint64{big, 1 << 63}, []uint64{big - 1}, fun(c(big), c(1<<63), c(big-1), anInt(c(big)), anInt(c(1<<63)))},
		{"bounds that do not hold", api.Scheme{LVars: 2, L: below(v(0), c(0), v(1), v(0)), E: below(c(1), c(0)), Body: tuple(v(0), anInt(v(1)))}, []uint64{1, 2}, nil, tuple(c(1), anInt(c(2)))},
		{"bounds that may not be", api.Scheme{LVars: 1, L: below(v(5), c(99)), E: slices.Repeat(below(v(9), v(9)), 300), Body: named(v(0))}, []uint64{1}, nil, named(c(1))},
	} {
		toldGround(t, r.name, r.s, r.l, r.x, r.want, api.OK)
		if body, e := ground(r.s, r.l, r.x); e != api.OK || !slices.Equal(body, r.want) {
			t.Errorf("%s: the tests themselves tell something else", r.name)
		}
	}
}

// TestAValueAtEachSpot: a variable alone among constants, of each sort, at each spot: it alone is another one.
func TestAValueAtEachSpot(t *testing.T) {
	for _, body := range shapes() {
		body = filled(body, c(1000), c(2000))
		l, x := holes(body)
		for _, h := range l {
			s := api.Scheme{LVars: 3, EVars: 1, Body: h.put(body, v(2))}
			toldGround(t, "a label", s, []uint64{1, 2, 3}, []uint64{4}, h.put(body, c(3)), api.OK)
		}
		for _, h := range x {
			s := api.Scheme{LVars: 1, EVars: 3, Body: h.put(body, v(1))}
			toldGround(t, "an effect", s, []uint64{1}, []uint64{2, 3, 4}, h.put(body, c(3)), api.OK)
		}
	}
}

// TestALabelAndAnEffectOfTheSameNumber: each has its own value.
func TestALabelAndAnEffectOfTheSameNumber(t *testing.T) {
	for _, body := range shapes() {
		for n := range uint64(64) {
			s := api.Scheme{LVars: 64, EVars: 64, Body: filled(body, v(n), v(n))}
			toldGround(t, "the same number", s, values(64, 100), values(64, 300), filled(body, c(100+n), c(300+n)), api.OK)
		}
	}
}

// TestHowManyValuesThereAre: fewer than variables, just as many, and more, of each sort.
func TestHowManyValuesThereAre(t *testing.T) {
	bodies := [][]api.Node{anInt(c(0)), plain(anInt(c(0)), named(c(0)))}
	for l := range 5 {
		for x := range 5 {
			all := bodies
			if l > 0 && x > 0 {
				all = append(slices.Clone(all), fun(v(uint64(l-1)), v(0), v(uint64(x-1)), anInt(v(0)), anInt(c(1))))
			}
			for _, body := range all {
				for n := range 8 {
					for m := range 8 {
						s := api.Scheme{LVars: l, EVars: x, Body: body}
						_, e := grounded(t, "so many values", s, values(n, 10), values(m, 50))
						if (e == api.OK) != (n == l && m == x) {
							t.Fatalf("of %v, %d and %d values: %v", s, n, m, e)
						}
					}
				}
			}
		}
	}
	for _, vars := range []int{math.MinInt, -1 << 32, -64, -2, -1, 65, 1 << 32, 1<<32 + 1, math.MaxInt} {
		for n := range 3 {
			s := api.Scheme{LVars: vars, EVars: n, Body: anInt(c(0))}
			toldGround(t, "labels that are not there", s, values(n, 0), values(n, 0), nil, api.ErrArg)
			s = api.Scheme{LVars: n, EVars: vars, Body: anInt(c(0))}
			toldGround(t, "effects that are not there", s, values(n, 0), values(n, 0), nil, api.ErrArg)
		}
	}
}

// TestVariablesThatAreNotThere: at each spot, of each sort, and however many there are of the other one.
func TestVariablesThatAreNotThere(t *testing.T) {
	for _, body := range shapes() {
		l, x := holes(body)
		for i, h := range append(slices.Clone(l), x...) {
			for count := range 3 {
				for _, n := range []uint64{uint64(count), uint64(count) + 1, 64, 1 << 32, 1 << 63, math.MaxInt64, math.MaxUint64} {
					s := api.Scheme{LVars: count, EVars: 65, Body: h.put(body, v(n))}
					if i >= len(l) {
						s.LVars, s.EVars = 65, count
					}
					toldGround(t, "a variable that is not there", s, values(s.LVars, 0), values(s.EVars, 0), nil, api.ErrArg)
				}
			}
		}
	}
}

// TestGroundHasNoLimits: there may be more variables than of a scheme that may be.
func TestGroundHasNoLimits(t *testing.T) {
	body := fun(v(999), v(64), v(998), anInt(v(500)), anInt(c(1000)))
	s := api.Scheme{LVars: 1000, EVars: 999, L: slices.Repeat(below(v(0), v(1)), 300), Body: body}
	toldGround(t, "many variables", s, values(1000, 5000), values(999, 9000), fun(c(5999), c(5064), c(9998), anInt(c(5500)), anInt(c(1000))), api.OK)
	toldGround(t, "a value too few", s, values(999, 5000), values(999, 9000), nil, api.ErrArg)
	toldGround(t, "a value too many", s, values(1000, 5000), values(1000, 9000), nil, api.ErrArg)
	few().told(t, "many variables", s, api.ErrLimit)
}

func TestGroundOfAnySchemes(t *testing.T) {
	counts := map[api.Errno]int{}
	for i, w := range worlds() {
		s := source(i + 100)
		for range 1000 {
			k := s.faulty(w, s.scheme(w))
			_, e := grounded(t, "any scheme", k, values(max(k.LVars, 0), 70), values(max(k.EVars, 0), 90))
			counts[e]++
			_, e = grounded(t, "any scheme, any values", k, values(s.below(5), 70), values(s.below(5), 90))
			counts[e]++
		}
	}
	for _, e := range []api.Errno{api.OK, api.ErrArg, api.ErrForm} {
		if counts[e] < 500 {
			t.Errorf("schemes, by what is told: %v", counts)
		}
	}
}

// P12.3

func variable(n api.Node) bool { return n.L.Var || n.PC.Var || n.E.Var }

// TestWhatFollows: of a scheme that may be there is a ground of any values of as many; it has no variables, and is ground to itself; of values of the sorts it may be.
func TestWhatFollows(t *testing.T) {
	for i, w := range worlds() {
		s := source(i + 200)
		for range 500 {
			k := s.scheme(w)
			if w.is(t, "a scheme", k) != api.OK {
				continue
			}
			l, x := values(k.LVars, 1<<40), values(k.EVars, 1<<50)
			if s.below(2) == 0 && len(w.l.few) > 0 && len(w.x.few) > 0 {
				l, x = s.valuesOf(w.l, k.LVars), s.valuesOf(w.x, k.EVars)
			}
			body, e := schemes.Ground(k, l, x)
			if e != api.OK || !types.Same(body, k.Body) || slices.ContainsFunc(body, variable) {
				t.Fatalf("%s: Ground(%v: %v, %v): %v, %v", w.name, k, l, x, body, e)
			}
			alone := api.Scheme{Body: body}
			toldGround(t, "what is ground", alone, nil, nil, body, api.OK)
			toldGround(t, "what is ground, with a label", alone, []uint64{0}, nil, nil, api.ErrArg)
			toldGround(t, "what is ground, with an effect", alone, nil, []uint64{0}, nil, api.ErrArg)
			toldGround(t, "what is ground, with variables", api.Scheme{LVars: k.LVars, EVars: k.EVars, Body: body}, l, x, body, api.OK)
			if w.is(t, "what is ground", alone) == api.OK != w.allHave(l, x, k) {
				t.Fatalf("%s: of Ground(%v: %v, %v): %v", w.name, k, l, x, body)
			}
		}
	}
}

func (s *source) valuesOf(k sort, n int) (l []uint64) {
	for range n {
		l = append(l, k.few[s.below(len(k.few))])
	}
	return l
}

// allHave: whether the sorts have the values of all variables that stand at spots.
func (w world) allHave(l, x []uint64, k api.Scheme) bool {
	labelHoles, effectHoles := holes(k.Body)
	lacks := func(of sort, holes []hole, values []uint64) bool {
		return slices.ContainsFunc(holes, func(h hole) bool {
			term := *h.in(k.Body)
			return term.Var && !of.has(values[term.N])
		})
	}
	return !lacks(w.l, labelHoles, l) && !lacks(w.x, effectHoles, x)
}

// R1, R2

// anyNode: a node of fields with no rule to be seen, more often such as may be than chance would have it.
func (s *source) anyNode() api.Node {
	numbers := []int{0, 0, 1, 2, 3, 8, 9, 16, 17, -1, math.MinInt, math.MaxInt}
	n := []api.Node{
		{Kind: api.KdBase, Name: "int"}, {Kind: api.KdNamed, Name: "t"}, {Kind: api.KdTuple}, {Kind: api.KdTuple, Kids: 1}, {Kind: api.KdRef, Kids: 1}, {Kind: api.KdFun, Kids: 2},
	}[s.below(6)]
	if s.below(8) == 0 {
		n = api.Node{Kind: api.Kind(s.below(9) * s.below(9)), Mod: numbers[s.below(12)], Kids: numbers[s.below(12)], Name: []string{"", "int", "t", "\xff", strings.Repeat("n", 33)}[s.below(5)]}
	}
	n.L = s.anyTerm()
	if n.Kind == api.KdFun || s.below(20) == 0 {
		n.PC, n.E = s.anyTerm(), s.anyTerm()
	}
	return n
}

func (s *source) anyTerm() api.Term {
	numbers := []uint64{0, 0, 0, 1, 1, 2, 3, 63, 64, 65, 1 << 32, 1 << 63, math.MaxUint64}
	return api.Term{Var: s.below(2) == 0, N: numbers[s.below(5)*s.below(4)]}
}

// TestEveryCallEndsAtAnySchemes: whatever numbers stand in them, of whatever sorts.
func TestEveryCallEndsAtAnySchemes(t *testing.T) {
	s := source(1)
	all := worlds()
	vars := []int{0, 1, 2, 3, 64, 65, -1, 256, math.MinInt, math.MaxInt}
	counts := map[api.Errno]int{}
	for range 60000 {
		k := api.Scheme{LVars: vars[s.below(6)], EVars: vars[s.below(6)]}
		if s.below(9) == 0 {
			k.LVars, k.EVars = vars[s.below(10)], vars[s.below(10)]
		}
		for range 1 + s.below(5) {
			k.Body = append(k.Body, s.anyNode())
		}
		for range s.below(3) {
			k.L = append(k.L, api.Bound{A: s.anyTerm(), B: s.anyTerm()})
		}
		for range s.below(3) {
			k.E = append(k.E, api.Bound{A: s.anyTerm(), B: s.anyTerm()})
		}
		counts[all[s.below(len(all))].is(t, "any numbers", k)]++
		grounded(t, "any numbers", k, values(s.below(4), 60), values(s.below(4), math.MaxUint64-1))
		grounded(t, "any numbers, as many values", k, values(max(min(k.LVars, 70), 0), 60), values(max(min(k.EVars, 70), 0), math.MaxUint64-1))
	}
	for _, e := range []api.Errno{api.OK, api.ErrArg, api.ErrForm, api.ErrLimit} {
		if counts[e] < 100 {
			t.Errorf("schemes, by what is told: %v", counts)
		}
	}
}

// TestEveryCallEndsAtGreatLists: faults are told without the lists, which are too long to be written.
func TestEveryCallEndsAtGreatLists(t *testing.T) {
	const most = 300000
	manyBounds, manyValues := slices.Repeat(below(v(0), v(70)), most), values(most, 0)
	check := func(name string, w world, s api.Scheme) {
		if e := schemes.Check(s, w.l.s, w.x.s); e != api.ErrLimit {
			t.Errorf("%s, %s: Check: %v", w.name, name, e)
		}
	}
	for _, w := range worlds() {
		for _, n := range []api.Node{{}, {Kind: api.KdTuple, Kids: math.MaxInt}, {Kind: api.KdFun, Kids: 2, PC: v(9)}, {Kind: api.KdNamed, Name: strings.Repeat("a", 1<<20)}} {
			check("a great body", w, api.Scheme{Body: slices.Repeat([]api.Node{n}, most)})
		}
		check("great lists of bounds", w, api.Scheme{L: manyBounds, E: manyBounds, Body: anInt(v(0))})
		check("a great list of bounds", w, api.Scheme{E: manyBounds, Body: anInt(v(0))})
	}
	ground := func(name string, s api.Scheme, want []api.Node, wantE api.Errno) {
		if body, e := schemes.Ground(s, manyValues, manyValues); e != wantE || !slices.Equal(body, want) {
			t.Errorf("%s: Ground: %d nodes, %v", name, len(body), e)
		}
	}
	s := api.Scheme{L: manyBounds, E: manyBounds, Body: fun(v(most-1), c(0), v(0), anInt(c(0)), anInt(c(0)))}
	ground("great lists of values", s, nil, api.ErrArg)
	s.LVars, s.EVars = most, most
	ground("as many variables", s, fun(c(most-1), c(0), c(0), anInt(c(0)), anInt(c(0))), api.OK)
	s.Body = slices.Repeat(anInt(v(0)), most)
	ground("a great body", s, nil, api.ErrLimit)
}

// R4

// roomy: a list with spare room behind it, as whole (l and its room) and as l.
func roomy[T any](l []T, room int, spare T) (whole, part []T) {
	whole = slices.Clip(slices.Concat(l, slices.Repeat([]T{spare}, room)))
	return whole, whole[:len(l)]
}

// handed: schemes that may be, and others, that the tests below hand in.
func handed(w world) (all []api.Scheme) {
	s := source(29)
	for range 60 {
		k := s.scheme(w)
		all = append(all, k, s.faulty(w, copied(k)))
	}
	for _, rows := range notBodies() {
		for _, body := range rows {
			all = append(all, api.Scheme{LVars: 1, Body: body, L: below(v(0), v(0))})
		}
	}
	return append(all, api.Scheme{LVars: 64, EVars: 64, Body: filled(wide(), v(63), v(0))})
}

func TestWhatIsHandedInStaysAsItWas(t *testing.T) {
	spareNode := api.Node{Kind: 77, Name: "room", Kids: 5, L: v(8), PC: v(9), E: v(10)}
	for _, w := range worlds() {
		for _, k := range handed(w) {
			for _, room := range []int{0, 1, 300} {
				body, bodyPart := roomy(k.Body, room, spareNode)
				l, lPart := roomy(k.L, room, below(v(77), c(77))[0])
				x, xPart := roomy(k.E, room, below(c(78), v(78))[0])
				lv, lvPart := roomy(values(max(k.LVars, 0), 5), room, 66)
				xv, xvPart := roomy(values(max(k.EVars, 0), 7), room, 67)
				was := copied(api.Scheme{Body: body, L: l, E: x})
				wasL, wasX := slices.Clone(lv), slices.Clone(xv)
				s := api.Scheme{LVars: k.LVars, EVars: k.EVars, Body: bodyPart, L: lPart, E: xPart}
				w.is(t, "with room", s)
				grounded(t, "with room", s, lvPart, xvPart)
				grounded(t, "with room, changed about", s, xvPart, lvPart)
				if !slices.Equal(body, was.Body) || !slices.Equal(l, was.L) || !slices.Equal(x, was.E) || !slices.Equal(lv, wasL) || !slices.Equal(xv, wasX) {
					t.Fatalf("%s: %v, %v and %v became %v, %v, %v, %v and %v", w.name, was, wasL, wasX, body, l, x, lv, xv)
				}
			}
		}
	}
}

// TestSortsStayAsTheyWere: what they have they have after all calls.
func TestSortsStayAsTheyWere(t *testing.T) {
	for _, w := range worlds() {
		for _, k := range handed(w) {
			w.is(t, "a scheme", k)
		}
		for _, k := range []sort{w.l, w.x} {
			for _, a := range append(slices.Clone(k.few), k.other...) {
				if k.s != nil && k.s.Has(a) != k.has(a) {
					t.Errorf("%s: Has(%d): %v", w.name, a, k.s.Has(a))
				}
			}
		}
	}
}

// TestSpareRoomIsNotRead: nodes, bounds and values stand in it that are missing, or that may not be.
func TestSpareRoomIsNotRead(t *testing.T) {
	w := few()
	for _, body := range shapes() {
		for end := range body {
			w.is(t, "a body cut off, with all of it behind", api.Scheme{Body: body[:end]})
			grounded(t, "a body cut off, with all of it behind", api.Scheme{Body: body[:end]}, nil, nil)
		}
		_, part := roomy(body, 130, api.Node{Kind: 99, L: v(99)})
		_, l := roomy(below(v(0), v(0)), 300, below(v(99), c(99))[0])
		_, none := roomy([]api.Bound(nil), 300, below(v(99), c(99))[0])
		w.told(t, "with room", api.Scheme{LVars: 1, EVars: 1, Body: part, L: l, E: none}, api.OK)
		w.told(t, "with room, changed about", api.Scheme{LVars: 1, EVars: 1, Body: part, L: none, E: l}, api.OK)
		_, one := roomy([]uint64{1}, 5, 2)
		_, no := roomy([]uint64(nil), 5, 2)
		s := api.Scheme{LVars: 1, EVars: 1, Body: filled(body, v(0), v(0))}
		toldGround(t, "values, with room", s, one, one, filled(body, c(1), c(1)), api.OK)
		toldGround(t, "labels in the room", s, no, one, nil, api.ErrArg)
		toldGround(t, "effects in the room", s, one, no, nil, api.ErrArg)
		s.Body = filled(body, v(1), v(0))
		toldGround(t, "a label in the room", s, one, one, nil, api.ErrArg)
	}
}

func TestEmptyAndNilMeanTheSame(t *testing.T) {
	noBounds := [][]api.Bound{nil, {}, make([]api.Bound, 0, 5), below(v(9), v(9))[:0], below(v(9), v(9))[1:]}
	noValues := [][]uint64{nil, {}, make([]uint64, 0, 5), {7}, {7, 8}}
	noValues[3], noValues[4] = noValues[3][:0], noValues[4][2:]
	for _, w := range worlds() {
		for _, l := range noBounds {
			for _, x := range noBounds {
				for _, body := range [][]api.Node{nil, {}, wide()[:0], wide()[128:], make([]api.Node, 0, 3)} {
					w.told(t, "no nodes", api.Scheme{Body: body, L: l, E: x}, api.ErrArg)
					for i := range noValues {
						toldGround(t, "no nodes", api.Scheme{Body: body, L: l, E: x}, noValues[i], noValues[4-i], nil, api.ErrArg)
					}
				}
				w.is(t, "no bounds", api.Scheme{LVars: 1, Body: tuple(v(0), anInt(c(0))), L: l, E: x})
			}
		}
	}
	for _, l := range noValues {
		for _, x := range noValues {
			toldGround(t, "no values", api.Scheme{Body: plain(anInt(c(1)), anInt(c(2)))}, l, x, plain(anInt(c(1)), anInt(c(2))), api.OK)
			toldGround(t, "no values of a label", api.Scheme{LVars: 1, Body: anInt(v(0))}, l, x, nil, api.ErrArg)
			toldGround(t, "no values of a variable that is not there", api.Scheme{Body: anInt(v(0))}, l, x, nil, api.ErrArg)
		}
	}
}

// scribble: writes other values over a list and its spare room.
func scribble[T any](l []T, over T) {
	l = l[:cap(l)]
	for i := range l {
		l[i] = over
	}
}

// TestAnswersOwnTheirMemory: what is written into one answer, and behind it, is to be seen nowhere else; nor what becomes of what was handed in.
func TestAnswersOwnTheirMemory(t *testing.T) {
	over := api.Node{Kind: 99, Name: "other", L: v(6)}
	for _, w := range []world{few(), many()} {
		for _, was := range handed(w) {
			k := copied(was)
			l, x := values(max(k.LVars, 0), 20), values(max(k.EVars, 0), 90)
			wasL, wasX := slices.Clone(l), slices.Clone(x)
			want, e := ground(k, l, x)
			one, e1 := schemes.Ground(k, l, x)
			other, e2 := schemes.Ground(k, l, x)
			if e1 != e || e2 != e {
				t.Fatalf("Ground(%v): %v, %v, want %v", k, e1, e2, e)
			}
			scribble(one, over)
			if !slices.Equal(other, want) || !slices.Equal(k.Body, was.Body) || !slices.Equal(l, wasL) || !slices.Equal(x, wasX) {
				t.Fatalf("Ground(%v): what was written over an answer stands in another list", was)
			}
			w.is(t, "after an answer was written over", k)
			scribble(k.Body, over)
			scribble(l, 7777)
			scribble(x, 7777)
			scribble(k.L, api.Bound{})
			if !slices.Equal(other, want) {
				t.Fatalf("Ground(%v): an answer became another one with what was handed in", was)
			}
		}
	}
}

// TestNothingIsKept: what becomes of what was handed in changes no later answer.
func TestNothingIsKept(t *testing.T) {
	w := few()
	s := api.Scheme{LVars: 1, EVars: 1, L: below(v(0), c(3)), Body: fun(v(0), c(0), v(0), anInt(c(1)), anInt(v(0)))}
	l, x := []uint64{2}, []uint64{1}
	w.told(t, "at first", s, api.OK)
	toldGround(t, "at first", s, l, x, fun(c(2), c(0), c(1), anInt(c(1)), anInt(c(2))), api.OK)
	l[0], x[0] = 5, 6
	toldGround(t, "other values", s, l, x, fun(c(5), c(0), c(6), anInt(c(1)), anInt(c(5))), api.OK)
	s.Body[0].L, s.Body[0].E = c(3), c(1)
	w.told(t, "other terms", s, api.OK)
	toldGround(t, "other terms", s, l, x, fun(c(3), c(0), c(1), anInt(c(1)), anInt(c(5))), api.OK)
	s.L[0].B = c(4)
	w.told(t, "another bound", s, api.ErrArg)
	s.L[0].B, s.Body[2].L = v(0), v(1)
	w.told(t, "a variable above", s, api.ErrArg)
	toldGround(t, "a variable above", s, l, x, nil, api.ErrArg)
	s.LVars = 2
	w.told(t, "one more variable", s, api.OK)
	s.Body[1].Name = ""
	w.told(t, "no base", s, api.ErrForm)
	toldGround(t, "no base", s, l, x, nil, api.ErrForm)
}

// R5

func TestAnswersHangOnArgumentsAlone(t *testing.T) {
	all := worlds()
	var done sync.WaitGroup
	for worker := range 8 {
		done.Go(func() {
			own := worlds()
			for i := range all {
				// Twice: of the same sorts as others ask, and of own ones.
				for _, w := range []world{all[(i+worker)%len(all)], own[i]} {
					for _, k := range handed(w) {
						if e := schemes.Check(k, w.l.s, w.x.s); e != w.check(k) {
							t.Errorf("%s, beside others: Check(%v): %v", w.name, k, e)
						}
						l, x := values(max(k.LVars, 0), uint64(worker)), values(max(k.EVars, 0), 9)
						want, wantE := ground(k, l, x)
						if body, e := schemes.Ground(k, l, x); e != wantE || !slices.Equal(body, want) {
							t.Errorf("%s, beside others: Ground(%v: %v, %v): %v, %v", w.name, k, l, x, body, e)
						}
					}
				}
			}
		})
	}
	done.Wait()
}
