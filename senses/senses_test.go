package senses_test

import (
	"math"
	"slices"
	"strings"
	"sync"
	"testing"

	"cartouche/api"
	"cartouche/bounds"
	"cartouche/effects"
	"cartouche/grounds"
	"cartouche/lattices"
	"cartouche/schemes"
	"cartouche/senses"
	"cartouche/types"
)

// A sort is one that is handed in, and what the tests know of it by themselves.
type sort struct {
	s           bounds.Sort
	few         []uint64 // some of its values, of a small one all; none, if it has none
	other       []uint64 // some that are none of its values
	has         func(a uint64) bool
	leq         func(a, b uint64) bool // of its values
	join, meet  func(a, b uint64) uint64
	bottom, top uint64
}

// lattice: labels, of which some are below others.
func lattice(n int, leq func(a, b uint64) bool) *lattices.Lattice {
	rows := make([]uint64, n)
	for i := range rows {
		for j := range n {
			if leq(uint64(i), uint64(j)) {
				rows[i] |= 1 << j
			}
		}
	}
	l, e := lattices.New(rows)
	if e != api.OK {
		panic("lattice")
	}
	return l
}

func or(a, b uint64) uint64      { return a | b }
func and(a, b uint64) uint64     { return a & b }
func within(a, b uint64) bool    { return a&^b == 0 }
func greater(a, b uint64) uint64 { return max(a, b) }
func less(a, b uint64) uint64    { return min(a, b) }

// of: the sort of labels, whose values are 0 to n-1.
func of(n int, k sort) sort {
	k.s = lattice(n, k.leq)
	k.has = func(a uint64) bool { return a < uint64(n) }
	k.few = values(min(n, 4), 0)
	if n > 4 {
		k.few = []uint64{0, uint64(n) - 1, uint64(n) / 2, 1}
	}
	k.other = []uint64{uint64(n), uint64(n) + 1, 1 << 32, 1 << 63, math.MaxUint64}
	return k
}

// chain: so many labels, each below all behind it.
func chain(n int) sort {
	return of(n, sort{leq: func(a, b uint64) bool { return a <= b }, join: greater, meet: less, top: uint64(n) - 1})
}

// turned: so many labels, each above all behind it: the bottom is the last one.
func turned(n int) sort {
	return of(n, sort{leq: func(a, b uint64) bool { return a >= b }, join: less, meet: greater, bottom: uint64(n) - 1})
}

// cube: labels that are below one another as the sets of so many things are that their bits tell.
func cube(things int) sort {
	return of(1<<things, sort{leq: within, join: or, meet: and, top: 1<<things - 1})
}

// sets: those of so many effects.
func sets(n int) sort {
	all := uint64(1)<<n - 1
	x, e := effects.New(n)
	if e != api.OK {
		panic("sets")
	}
	k := sort{s: x, has: func(a uint64) bool { return a&^all == 0 }, leq: within, join: or, meet: and, top: all}
	if n <= 2 {
		k.few = values(1<<n, 0)
	} else {
		k.few = []uint64{0, all, all & 0x5555555555555555, all &^ 1}
	}
	if n < 64 {
		k.other = []uint64{1 << n, 1<<n | all, 1 << 63, math.MaxUint64}
	}
	return k
}

// nothing: sorts that have no values: none that is there, or that a call made.
func nothing() (all []sort) {
	never := func(uint64) bool { return false }
	for _, s := range []bounds.Sort{nil, (*lattices.Lattice)(nil), (*effects.Effects)(nil), new(lattices.Lattice), new(effects.Effects)} {
		all = append(all, sort{s: s, other: []uint64{0, 1, 64, math.MaxUint64}, has: never, join: or, meet: or, leq: func(a, b uint64) bool { return false }})
	}
	return all
}

// A world is the two sorts that a call is asked with.
type world struct {
	name string
	l, x sort
}

// diamond: labels 0, then 1 and 2 that are not below one another, then 3; and sets of one effect.
func diamond() world { return world{"a diamond, one effect", cube(2), sets(1)} }

// small: worlds of which all values can be gone through.
func small() []world {
	return []world{
		diamond(), {"two labels, two effects", chain(2), sets(2)}, {"three labels turned, one effect", turned(3), sets(1)},
		{"one label, no effects", chain(1), sets(0)}, {"sets for labels, labels for effects", sets(2), turned(2)}, {"labels twice", chain(3), chain(2)},
	}
}

func worlds() []world {
	all := append(small(),
		world{"one label, 64 effects", chain(1), sets(64)},
		world{"64 labels, no effects", chain(64), sets(0)},
		world{"64 labels turned, 64 effects", turned(64), sets(64)},
		world{"64 labels in a cube, 63 effects", cube(6), sets(63)},
	)
	for _, none := range nothing() {
		all = append(all, world{"nothing", none, none}, world{"labels alone", chain(2), none}, world{"effects alone", none, sets(2)})
	}
	return all
}

func v(n uint64) api.Term { return api.Term{Var: true, N: n} }
func c(n uint64) api.Term { return api.Term{N: n} }

// below: bounds, each of two terms that stand behind one another.
func below(terms ...api.Term) (l []api.Bound) {
	for i := 0; i < len(terms); i += 2 {
		l = append(l, api.Bound{A: terms[i], B: terms[i+1]})
	}
	return l
}

// values: so many of them, rising from one on.
func values(n int, from uint64) (l []uint64) {
	for i := range n {
		l = append(l, from+uint64(i))
	}
	return l
}

// Types, by their labels, PC and effects.

func anInt(label api.Term) []api.Node {
	return []api.Node{{Kind: api.KdBase, Name: "int", L: label}}
}

func named(label api.Term) []api.Node {
	return []api.Node{{Kind: api.KdNamed, Mod: 1, Name: "t", L: label}}
}

func tuple(label api.Term, parts ...[]api.Node) []api.Node {
	return slices.Concat([]api.Node{{Kind: api.KdTuple, Kids: len(parts), L: label}}, slices.Concat(parts...))
}

func ref(label api.Term, part []api.Node) []api.Node {
	return slices.Concat([]api.Node{{Kind: api.KdRef, Kids: 1, L: label}}, part)
}

func fun(label, pc, set api.Term, argument, result []api.Node) []api.Node {
	return slices.Concat([]api.Node{{Kind: api.KdFun, Kids: 2, L: label, PC: pc, E: set}}, argument, result)
}

// plain: a function whose own terms are noughts.
func plain(argument, result []api.Node) []api.Node { return fun(c(0), c(0), c(0), argument, result) }

// wide: a body of as many nodes as may be, of them as many functions as can be, below a tuple; its terms are noughts.
func wide() []api.Node {
	body := anInt(c(0))
	for range 6 {
		body = plain(body, body)
	}
	return tuple(c(0), body)
}

// deep: a body of so many refs below one another.
func deep(refs int) []api.Node {
	body := anInt(c(0))
	for range refs {
		body = ref(c(0), body)
	}
	return body
}

// shapes: bodies in which each kind of node stands first, last and between others; their terms are noughts.
func shapes() [][]api.Node {
	i, n, none := anInt(c(0)), named(c(0)), tuple(c(0))
	return [][]api.Node{
		i, n, none, ref(c(0), i), plain(i, i), tuple(c(0), i, n),
		tuple(c(0), n, plain(n, i), none), tuple(c(0), plain(i, n), plain(n, none)),
		plain(plain(i, n), ref(c(0), none)), plain(ref(c(0), plain(none, i)), plain(i, n)),
		ref(c(0), tuple(c(0), plain(i, i), i)), ref(c(0), ref(c(0), plain(n, tuple(c(0), i, i)))),
		plain(plain(plain(i, i), i), tuple(c(0), ref(c(0), i))), deep(15), wide(),
	}
}

// at: where a spot's term stands; in the body itself, not in a copy.
func at(body []api.Node, spot api.Spot) *api.Term {
	n := &body[spot.Node]
	return []*api.Term{api.PaLabel: &n.L, api.PaPC: &n.PC, api.PaEffect: &n.E}[spot.Part]
}

// put: the body, with that term at the spot.
func put(body []api.Node, spot api.Spot, term api.Term) []api.Node {
	other := slices.Clone(body)
	*at(other, spot) = term
	return other
}

// filled: the body, at whose spots of labels terms stand, one behind the other, again from the first one on; at those of effects likewise.
func filled(body []api.Node, labels, effects []api.Term) []api.Node {
	other := slices.Clone(body)
	l, x := places(body)
	for i, spot := range l {
		*at(other, spot) = labels[i%len(labels)]
	}
	for i, spot := range x {
		*at(other, spot) = effects[i%len(effects)]
	}
	return other
}

// What the tests ask for is worked out by themselves: sides from the root down, ends by all terms that lead somewhere, one term after the other.

var turn = map[api.Side]api.Side{api.SiUp: api.SiDown, api.SiDown: api.SiUp, api.SiBoth: api.SiBoth}

// places: the spots of a body that may be.
func places(body []api.Node) (labels, effects []api.Spot) {
	var walk func(node int, side api.Side) int
	walk = func(node int, side api.Side) int {
		n, next := body[node], node+1
		labels = append(labels, api.Spot{Node: node, Part: api.PaLabel, Side: side, T: n.L})
		if n.Kind == api.KdFun {
			labels = append(labels, api.Spot{Node: node, Part: api.PaPC, Side: turn[side], T: n.PC})
			effects = append(effects, api.Spot{Node: node, Part: api.PaEffect, Side: side, T: n.E})
			return walk(walk(next, turn[side]), side)
		}
		if n.Kind == api.KdRef {
			side = api.SiBoth
		}
		for range n.Kids {
			next = walk(next, side)
		}
		return next
	}
	walk(0, api.SiUp)
	return labels, effects
}

// from: all terms that a term leads to, itself among them, over such bounds alone.
func from(term api.Term, l []api.Bound, over func(api.Bound) bool) []api.Term {
	all := []api.Term{term}
	for i := 0; i < len(all); i++ {
		for _, b := range l {
			if over(b) && b.A == all[i] && !slices.Contains(all, b.B) {
				all = append(all, b.B)
			}
		}
	}
	return all
}

func whatever(api.Bound) bool      { return true }
func betweenVars(b api.Bound) bool { return b.A.Var && b.B.Var }
func back(l []api.Bound) []api.Bound { // each one turned round
	all := make([]api.Bound, len(l))
	for i, b := range l {
		all[i] = api.Bound{A: b.B, B: b.A}
	}
	return all
}

// end: what becomes of a sort's end, with all constants that lead to a term.
func end(term api.Term, l []api.Bound, first uint64, merge func(a, b uint64) uint64) uint64 {
	if !term.Var {
		return term.N
	}
	for _, t := range from(term, back(l), whatever) {
		if !t.Var {
			first = merge(first, t.N)
		}
	}
	return first
}

// unsat: whether no values are such that bounds that may be hold.
func (k sort) unsat(vars int, l []api.Bound) bool {
	if vars > 0 && !k.has(k.bottom) {
		return true
	}
	for _, b := range l {
		for _, t := range from(b.A, l, whatever) {
			if !b.A.Var && !t.Var && !k.leq(b.A.N, t.N) {
				return true
			}
		}
	}
	return false
}

// sense: what is to be told of the spots of a sort, where bounds can hold.
func (k sort) sense(l []api.Bound, spots []api.Spot) api.Sense {
	z := api.Sense{Spots: spots}
	low := func(t api.Term) uint64 { return end(t, l, k.bottom, k.join) }
	high := func(t api.Term) uint64 { return end(t, back(l), k.top, k.meet) }
	for _, a := range spots {
		lo, hi := low(a.T), high(a.T)
		switch a.Side {
		case api.SiUp:
			hi = k.top
		case api.SiDown:
			lo = k.bottom
		}
		z.Low, z.High = append(z.Low, lo), append(z.High, hi)
		reached := from(a.T, l, betweenVars)
		var row []bool
		for _, b := range spots {
			is := false
			if a.Side != api.SiUp && b.Side != api.SiDown {
				is = a.T.Var && b.T.Var && slices.Contains(reached, b.T) || k.leq(high(a.T), low(b.T))
			}
			row = append(row, is)
		}
		z.Below = append(z.Below, row)
	}
	return z
}

// sense: what Of is to tell.
func (w world) sense(s api.Scheme) (labels, effects api.Sense, e api.Errno) {
	if e := schemes.Check(s, w.l.s, w.x.s); e != api.OK {
		return labels, effects, e
	}
	if w.l.unsat(s.LVars, s.L) || w.x.unsat(s.EVars, s.E) {
		return labels, effects, api.ErrUnsat
	}
	l, x := places(s.Body)
	return w.l.sense(s.L, l), w.x.sense(s.E, x), api.OK
}

func equal(a, b api.Sense) bool {
	return slices.Equal(a.Spots, b.Spots) && slices.Equal(a.Low, b.Low) && slices.Equal(a.High, b.High) && slices.EqualFunc(a.Below, b.Below, slices.Equal)
}

// is holds Of against what it is to tell.
func (w world) is(t *testing.T, name string, s api.Scheme) (labels, effects api.Sense, e api.Errno) {
	t.Helper()
	labels, effects, e = w.sense(s)
	w.told(t, name, s, labels, effects, e)
	return labels, effects, e
}

// told holds Of against what is written there.
func (w world) told(t *testing.T, name string, s api.Scheme, labels, effects api.Sense, want api.Errno) {
	t.Helper()
	l, x, e := senses.Of(s, w.l.s, w.x.s)
	if e != want || !equal(l, labels) || !equal(x, effects) {
		t.Fatalf("%s, %s: Of(%v):\n%v, %v, %v, want\n%v, %v, %v", w.name, name, s, l, x, e, labels, effects, want)
	}
}

// fails holds Of's error against what is written there.
func (w world) fails(t *testing.T, name string, s api.Scheme, want api.Errno) {
	t.Helper()
	w.told(t, name, s, api.Sense{}, api.Sense{}, want)
}

// less: what Less is to tell.
func (k sort) less(a, b api.Sense) bool {
	n := len(a.Spots)
	for _, z := range []api.Sense{a, b} {
		if len(z.Spots) != n || len(z.Low) != n || len(z.High) != n || len(z.Below) != n {
			return false
		}
		for i := range n {
			if len(z.Below[i]) != n || z.Spots[i].Side > 2 {
				return false
			}
		}
	}
	leq := func(a, b uint64) bool { return k.has(a) && k.has(b) && k.leq(a, b) }
	for i := range n {
		p, q := a.Spots[i], b.Spots[i]
		if p.Node != q.Node || p.Part != q.Part || p.Side != q.Side || !leq(a.Low[i], b.Low[i]) || !leq(b.High[i], a.High[i]) {
			return false
		}
		for j := range n {
			if a.Below[i][j] && !b.Below[i][j] {
				return false
			}
		}
	}
	return true
}

// isLess holds Less against what it is to tell.
func (k sort) isLess(t *testing.T, name string, a, b api.Sense) bool {
	t.Helper()
	want := k.less(a, b)
	k.toldLess(t, name, a, b, want)
	return want
}

// toldLess holds Less against what is written there.
func (k sort) toldLess(t *testing.T, name string, a, b api.Sense, want bool) {
	t.Helper()
	if is := senses.Less(k.s, a, b); is != want {
		t.Fatalf("%s: Less(%v, %v): %v", name, a, b, is)
	}
}

// copied: a scheme, of which no list is shared.
func copied(s api.Scheme) api.Scheme {
	s.Body, s.L, s.E = slices.Clone(s.Body), slices.Clone(s.L), slices.Clone(s.E)
	return s
}

// like: a sense, of which no list is shared.
func like(z api.Sense) api.Sense {
	z.Spots, z.Low, z.High, z.Below = slices.Clone(z.Spots), slices.Clone(z.Low), slices.Clone(z.High), slices.Clone(z.Below)
	for i, row := range z.Below {
		z.Below[i] = slices.Clone(row)
	}
	return z
}

// A source tells numbers with no rule to be seen in them, the same ones each time.
type source uint64

// below: the next one, below n.
func (s *source) below(n int) int {
	*s = *s*6364136223846793005 + 1442695040888963407
	return int(*s >> 33 % source(n))
}

// term: one that may stand where there are so many variables of a sort, if there is any.
func (s *source) term(k sort, vars int) api.Term {
	if vars > 0 && (len(k.few) == 0 || s.below(3) > 0) {
		return v(uint64(s.below(vars)))
	}
	if len(k.few) == 0 {
		return c(0)
	}
	return c(k.few[s.below(len(k.few))])
}

// bounds: such as may be.
func (s *source) bounds(k sort, vars, n int) (l []api.Bound) {
	for range n {
		l = append(l, api.Bound{A: s.term(k, vars), B: s.term(k, vars)})
	}
	return l
}

// shape: a body that may be, if it has no more than 128 nodes; its terms are noughts.
func (s *source) shape(depth int) []api.Node {
	kind := s.below(8)
	if depth < 2 {
		kind = s.below(2)
	}
	switch kind {
	case 0:
		return anInt(c(0))
	case 1:
		return named(c(0))
	case 2, 3:
		var parts [][]api.Node
		for range s.below(5) {
			parts = append(parts, s.shape(depth-1))
		}
		return tuple(c(0), parts...)
	case 4:
		return ref(c(0), s.shape(depth-1))
	}
	return plain(s.shape(depth-1), s.shape(depth-1))
}

// terms: such as may stand where there are so many variables of a sort.
func (s *source) terms(k sort, vars, n int) (l []api.Term) {
	for range n {
		l = append(l, s.term(k, vars))
	}
	return l
}

// scheme: one of that body that may be, where both sorts have values.
func (s *source) scheme(w world, body []api.Node) api.Scheme {
	k := api.Scheme{LVars: s.below(5), EVars: s.below(5)}
	k.L, k.E = s.bounds(w.l, k.LVars, s.below(5)), s.bounds(w.x, k.EVars, s.below(5))
	l, x := places(body)
	k.Body = filled(body, s.terms(w.l, k.LVars, len(l)), s.terms(w.x, k.EVars, max(len(x), 1)))
	return k
}

// body: one that may be; its terms are noughts.
func (s *source) body() []api.Node {
	body := s.shape(2 + s.below(5))
	for len(body) > 60 {
		body = s.shape(4)
	}
	return body
}

// The chapter's examples.

func TestExamples(t *testing.T) {
	w := world{"0 below 1", chain(2), sets(0)}
	s := api.Scheme{LVars: 1, Body: anInt(v(0))}
	root := api.Spot{Side: api.SiUp, T: v(0)}
	w.told(t, "int", s, api.Sense{Spots: []api.Spot{root}, Low: []uint64{0}, High: []uint64{1}, Below: [][]bool{{false}}}, api.Sense{}, api.OK)
	s.Body = fun(c(0), c(0), c(0), anInt(v(0)), anInt(v(0)))
	labels := api.Sense{
		Spots: []api.Spot{{Side: api.SiUp}, {Part: api.PaPC, Side: api.SiDown}, {Node: 1, Side: api.SiDown, T: v(0)}, {Node: 2, Side: api.SiUp, T: v(0)}},
		Low:   []uint64{0, 0, 0, 0}, High: []uint64{1, 0, 1, 1},
		// The PC's label is the bottom: it is below all that go up.
		Below: [][]bool{{false, false, false, false}, {true, false, false, true}, {false, false, false, true}, {false, false, false, false}},
	}
	sets := api.Sense{Spots: []api.Spot{{Part: api.PaEffect}}, Low: []uint64{0}, High: []uint64{0}, Below: [][]bool{{false}}}
	w.told(t, "a function", s, labels, sets, api.OK)
}

// P13.1: errors

// bad: bounds that no values hold of, of one variable.
func bad(k sort) []api.Bound { return below(c(k.top), v(0), v(0), c(k.bottom)) }

// TestWhichErrorIsToldFirst: of the check of the scheme, whatever no values hold; then that none hold, of either sort.
func TestWhichErrorIsToldFirst(t *testing.T) {
	w := diamond()
	body := fun(v(0), c(1), v(0), anInt(c(2)), anInt(v(0)))
	good := api.Scheme{LVars: 1, EVars: 1, Body: body}
	unsat := []api.Scheme{good, good, good}
	unsat[0].L, unsat[1].E = bad(w.l), bad(w.x)
	unsat[2].L, unsat[2].E = bad(w.l), bad(w.x)
	w.is(t, "all is well", good)
	for i, s := range unsat {
		w.fails(t, "none hold", s, api.ErrUnsat)
		faults := []struct {
			with func(s *api.Scheme)
			e    api.Errno
		}{
			{func(s *api.Scheme) { s.Body = nil }, api.ErrArg},
			{func(s *api.Scheme) { s.Body = s.Body[1:] }, api.ErrForm},
			{func(s *api.Scheme) { s.Body = slices.Repeat(s.Body, 50) }, api.ErrLimit},
			{func(s *api.Scheme) { s.Body = deep(16) }, api.ErrLimit},
			{func(s *api.Scheme) { s.LVars = 65 }, api.ErrLimit},
			{func(s *api.Scheme) { s.LVars = -1 }, api.ErrLimit},
			{func(s *api.Scheme) { s.EVars = 65 }, api.ErrLimit},
			{func(s *api.Scheme) { s.L = slices.Repeat(below(v(0), c(0), c(3), v(0)), 129) }, api.ErrLimit},
			{func(s *api.Scheme) { s.E = slices.Repeat(below(v(0), c(0), c(1), v(0)), 129) }, api.ErrLimit},
			{func(s *api.Scheme) { s.L = append(slices.Clone(s.L), below(c(0), c(4))...) }, api.ErrArg},
			{func(s *api.Scheme) { s.L = append(slices.Clone(s.L), below(v(1), c(3))...) }, api.ErrArg},
			{func(s *api.Scheme) { s.E = append(slices.Clone(s.E), below(c(2), c(0))...) }, api.ErrArg},
			{func(s *api.Scheme) { s.E = append(slices.Clone(s.E), below(v(0), v(1))...) }, api.ErrArg},
			{func(s *api.Scheme) { s.LVars = 0 }, api.ErrArg},
			{func(s *api.Scheme) { s.EVars = 0 }, api.ErrArg},
		}
		labels, sets := places(body)
		for _, spot := range labels {
			faults = append(faults, []struct {
				with func(s *api.Scheme)
				e    api.Errno
			}{
				{func(s *api.Scheme) { s.Body = put(body, spot, c(4)) }, api.ErrArg},
				{func(s *api.Scheme) { s.Body = put(body, spot, v(1)) }, api.ErrArg},
			}...)
		}
		for _, term := range []api.Term{c(2), v(1)} {
			faults = append(faults, struct {
				with func(s *api.Scheme)
				e    api.Errno
			}{func(s *api.Scheme) { s.Body = put(body, sets[0], term) }, api.ErrArg})
		}
		for n, fault := range faults {
			other := copied(s)
			fault.with(&other)
			if e := schemes.Check(other, w.l.s, w.x.s); e != fault.e {
				t.Fatalf("unsat %d, fault %d: Check: %v, want %v", i, n, e, fault.e)
			}
			w.fails(t, "a fault, and none hold", other, fault.e)
		}
	}
}

// TestNoValuesHold: of labels, of effects and of both, by constants that lead to one another, near and far.
func TestNoValuesHold(t *testing.T) {
	for _, w := range small() {
		if w.l.bottom == w.l.top || w.x.bottom == w.x.top {
			continue
		}
		rows := func(k sort) [][]api.Bound {
			low, high := c(k.bottom), c(k.top)
			return [][]api.Bound{
				nil, below(high, low), below(high, v(0), v(0), low), below(v(1), low, high, v(0), v(0), v(1)),
				below(high, v(0), v(0), low, low, v(1), v(1), high), below(low, v(0), v(0), high), below(high, v(0), v(1), low), below(low, low, high, high, low, high),
				below(high, v(0), v(2), low, v(0), v(1), v(1), v(2)), below(high, v(0), v(0), low, low, high),
			}
		}
		hold := []bool{true, false, false, false, false, true, true, true, false, false}
		for i, l := range rows(w.l) {
			for j, x := range rows(w.x) {
				s := api.Scheme{LVars: 3, EVars: 3, L: l, E: x, Body: fun(v(0), v(1), v(0), anInt(v(2)), anInt(v(1)))}
				_, _, e := w.is(t, "bounds", s)
				if e == api.OK != (hold[i] && hold[j]) {
					t.Errorf("%s: bounds %v and %v: %v", w.name, l, x, e)
				}
				// Whether or not the variables of them stand anywhere.
				s.Body = plain(anInt(c(w.l.bottom)), anInt(c(w.l.top)))
				s.Body[0].L, s.Body[0].PC, s.Body[0].E = c(w.l.bottom), c(w.l.bottom), c(w.x.bottom)
				if _, _, e := w.is(t, "bounds of none", s); e == api.OK != (hold[i] && hold[j]) {
					t.Errorf("%s: bounds %v and %v: %v", w.name, l, x, e)
				}
			}
		}
	}
	// Labels 1 and 2 of a diamond are not below one another.
	w := diamond()
	for _, l := range [][]api.Bound{below(c(1), c(2)), below(c(1), v(0), v(0), c(2)), below(c(2), v(0), v(0), c(1))} {
		w.fails(t, "neither below the other one", api.Scheme{LVars: 1, L: l, Body: anInt(c(3))}, api.ErrUnsat)
	}
}

// TestSortsWithoutValues: where there are variables none hold; where there are none no spot may be there, either.
func TestSortsWithoutValues(t *testing.T) {
	for _, none := range nothing() {
		w := world{"labels alone", chain(2), none}
		body := ref(c(1), anInt(v(0)))
		for vars := range 3 {
			want := api.OK
			if vars > 0 {
				want = api.ErrUnsat
			}
			s := api.Scheme{LVars: 1, EVars: vars, Body: body}
			if _, _, e := w.is(t, "no effects", s); e != want {
				t.Errorf("%d variables: %v, want %v", vars, e, want)
			}
			s.Body = tuple(c(0), fun(c(0), c(0), v(0), body, body))
			if vars == 0 {
				want = api.ErrArg
			}
			w.fails(t, "a function", s, want)
			s.Body[1].E = c(0)
			w.fails(t, "a set that there is not", s, api.ErrArg)
		}
		w.fails(t, "a bound of none", api.Scheme{Body: body, LVars: 1, E: below(c(0), c(0))}, api.ErrArg)
		w = world{"effects alone", none, sets(2)}
		w.fails(t, "a variable", api.Scheme{LVars: 1, Body: body[1:]}, api.ErrUnsat)
		w.fails(t, "a constant", api.Scheme{LVars: 1, Body: body}, api.ErrArg)
		w.fails(t, "no variable", api.Scheme{Body: body[1:]}, api.ErrArg)
		w.fails(t, "both unsat", api.Scheme{LVars: 1, Body: body[1:], EVars: 1, E: bad(w.x)}, api.ErrUnsat)
	}
}

// P13.1: senses

// TestBodiesWithoutEffects: they have a sense of labels alone.
func TestBodiesWithoutEffects(t *testing.T) {
	for _, w := range worlds() {
		if len(w.l.few) == 0 {
			continue
		}
		for _, body := range [][]api.Node{anInt(v(0)), named(c(0)), tuple(v(0)), ref(v(0), anInt(v(0))), tuple(c(0), ref(v(0), named(c(0))))} {
			s := api.Scheme{LVars: 1, L: below(v(0), c(w.l.top)), Body: body}
			labels, sets, e := w.is(t, "no functions", s)
			if e != api.OK || len(labels.Spots) != len(body) || len(sets.Spots) != 0 {
				t.Errorf("%s: %v: %v, %v, %v", w.name, s, labels, sets, e)
			}
		}
	}
}

// ended: terms of a chain of five labels, where bounds hold of variables from below, from above, from both ends, from neither, and by other variables; with the least value and the greatest one of each.
func ended() (vars int, l []api.Bound, terms []api.Term, low, high []uint64) {
	l = below(
		c(1), v(0), // from below
		v(1), c(3), // from above
		c(1), v(2), v(2), c(3), // from both ends
		c(2), v(4), v(4), c(2), // to one value
		v(0), v(5), v(5), v(1), // by other ones
		c(3), v(6), c(1), v(6), v(7), c(3), v(7), c(1), // by two
	)
	terms = []api.Term{v(0), v(1), v(2), v(3), v(4), v(5), v(6), v(7), c(0), c(2), c(4)}
	return 8, l, terms, []uint64{1, 1, 1, 0, 2, 1, 3, 0, 0, 2, 4}, []uint64{3, 3, 3, 4, 2, 3, 4, 1, 0, 2, 4}
}

// TestEndsAtEachSpot: in each kind of body, at each spot of each side, each kind of term.
func TestEndsAtEachSpot(t *testing.T) {
	vars, l, terms, low, high := ended()
	// Of effects labels stand, too: whatever is a sort may be either.
	w := world{"five labels, five effects in a row", chain(5), chain(5)}
	sides := map[api.Side]int{}
	for _, body := range shapes() {
		labelSpots, effectSpots := places(body)
		for at, spot := range append(slices.Clone(labelSpots), effectSpots...) {
			if at > 20 && at%37 > 0 {
				continue
			}
			sides[spot.Side]++
			for i, term := range terms {
				s := api.Scheme{LVars: vars, EVars: vars, L: l, E: l, Body: put(body, spot, term)}
				z, x, e := w.is(t, "a term at a spot", s)
				n := at
				if at >= len(labelSpots) {
					z, n = x, at-len(labelSpots)
				}
				lo, hi := low[i], high[i]
				switch spot.Side {
				case api.SiUp:
					hi = 4
				case api.SiDown:
					lo = 0
				}
				if e != api.OK || z.Low[n] != lo || z.High[n] != hi || z.Spots[n].T != term {
					t.Fatalf("%v at %v: %v to %v, %v", term, spot, z.Low, z.High, e)
				}
			}
		}
	}
	if len(sides) != 3 || sides[0] == 0 || sides[1] == 0 || sides[2] == 0 {
		t.Errorf("spots gone through: %v", sides)
	}
}

// TestEndsOfSortsThatAreTurned: bottom and top are other values than the first and the last one.
func TestEndsOfSortsThatAreTurned(t *testing.T) {
	w := world{"three turned, three turned", turned(3), turned(3)}
	s := api.Scheme{LVars: 1, EVars: 1, Body: fun(v(0), v(0), v(0), anInt(c(1)), ref(c(1), anInt(v(0))))}
	labels, sets, _ := w.is(t, "turned", s)
	if !slices.Equal(labels.Low, []uint64{2, 2, 2, 1, 2}) || !slices.Equal(labels.High, []uint64{0, 0, 1, 0, 0}) || sets.Low[0] != 2 || sets.High[0] != 0 {
		t.Errorf("%v, %v", labels, sets)
	}
	s.Body = fun(v(0), c(1), c(1), plain(anInt(c(0)), anInt(c(0))), anInt(v(0)))
	if _, sets, _ = w.is(t, "turned", s); !slices.Equal(sets.Low, []uint64{1, 2}) || !slices.Equal(sets.High, []uint64{0, 0}) {
		t.Errorf("%v", sets)
	}
}

// TestBelow: of a pair of spots for each way in which two terms may stand to one another.
func TestBelow(t *testing.T) {
	w := world{"five labels, one effect", chain(5), sets(1)}
	vars, l, _, _, _ := ended()
	both := func(a, b api.Term) []api.Node { return ref(c(0), tuple(c(0), anInt(a), anInt(b))) }
	for _, k := range []struct {
		a, b        api.Term
		there, back bool
	}{
		{v(3), v(3), true, true},                             // the same variable, without bounds
		{v(0), v(5), true, false}, {v(5), v(1), true, false}, // by one bound
		{v(0), v(1), true, false},                              // by several
		{v(2), v(3), false, false}, {v(0), v(2), false, false}, // not related, and what they may be overlaps
		{c(0), v(3), true, false}, {c(4), v(3), false, true}, // any is above the bottom, below the top
		{c(1), v(0), true, false}, {c(2), v(0), false, false}, {c(0), v(0), true, false}, // a constant and a least value
		{c(3), v(1), false, true}, {c(2), v(1), false, false}, {c(4), v(1), false, true}, // a constant and a greatest value
		{c(2), v(2), false, false}, {c(1), v(2), true, false}, {c(3), v(2), false, true}, {c(2), v(4), true, true},
		{c(1), c(3), true, false}, {c(2), c(2), true, true}, {c(0), c(4), true, false},
		{v(7), v(6), true, false}, {v(7), v(4), true, false}, {v(4), v(6), true, false}, // a greatest value below a least one
		{v(7), v(0), true, false}, // and the same as it
		{v(4), v(4), true, true}, {v(4), v(2), false, false},
	} {
		s := api.Scheme{LVars: vars, L: l, EVars: 0, Body: both(k.a, k.b)}
		labels, _, e := w.is(t, "both", s)
		if e != api.OK || labels.Below[2][3] != k.there || labels.Below[3][2] != k.back || !labels.Below[2][2] || !labels.Below[3][3] || !labels.Below[1][1] {
			t.Errorf("%v and %v: %v, %v", k.a, k.b, labels.Below, e)
		}
		// From an argument to a result, and the other way round.
		s.Body = fun(k.b, k.a, c(0), anInt(k.a), anInt(k.b))
		labels, _, e = w.is(t, "down, and up", s)
		want := [][]bool{{false, false, false, false}, {k.there, false, false, k.there}, {k.there, false, false, k.there}, {false, false, false, false}}
		if e != api.OK || !slices.EqualFunc(labels.Below, want, slices.Equal) {
			t.Errorf("%v and %v: %v, %v", k.a, k.b, labels.Below, e)
		}
	}
}

// TestBelowOfEffects: effects of functions, that go up, down and both.
func TestBelowOfEffects(t *testing.T) {
	w := world{"one label, three effects", chain(1), sets(3)}
	i := anInt(c(0))
	does := func(set api.Term) []api.Node { return fun(c(0), c(0), set, i, i) }
	body := fun(c(0), c(0), v(1), does(v(0)), ref(c(0), does(v(2))))
	s := api.Scheme{EVars: 3, E: below(v(0), v(1), c(1), v(2), v(2), c(5)), Body: body}
	_, sets, e := w.is(t, "three functions", s)
	want := [][]bool{{false, false, false}, {true, false, false}, {false, false, true}}
	if e != api.OK || !slices.EqualFunc(sets.Below, want, slices.Equal) || !slices.Equal(sets.Low, []uint64{0, 0, 1}) || !slices.Equal(sets.High, []uint64{7, 7, 5}) {
		t.Errorf("%v, %v", sets, e)
	}
	s.E = below(v(0), c(1), c(1), v(2), v(2), c(5), c(5), v(1))
	_, sets, e = w.is(t, "three functions", s)
	want = [][]bool{{false, false, false}, {true, false, true}, {true, false, true}}
	if e != api.OK || !slices.EqualFunc(sets.Below, want, slices.Equal) || !slices.Equal(sets.Low, []uint64{5, 0, 1}) || !slices.Equal(sets.High, []uint64{7, 1, 5}) {
		t.Errorf("%v, %v", sets, e)
	}
}

// TestSidesAndBelow: of all pairs of sides, where the same variable stands at all spots.
func TestSidesAndBelow(t *testing.T) {
	w := diamond()
	for _, body := range shapes() {
		s := api.Scheme{LVars: 1, EVars: 1, Body: filled(body, []api.Term{v(0)}, []api.Term{v(0)})}
		labels, sets, _ := w.is(t, "one variable at all spots", s)
		for _, z := range []api.Sense{labels, sets} {
			for i, a := range z.Spots {
				for j, b := range z.Spots {
					if z.Below[i][j] != (a.Side != api.SiUp && b.Side != api.SiDown) {
						t.Fatalf("%v: spots %d and %d: %v", body, i, j, z.Below[i][j])
					}
				}
			}
		}
	}
}

// TestSensesOfAnySchemes: of each sort alone, as the other one tells nothing of it.
func TestSensesOfAnySchemes(t *testing.T) {
	counts := map[api.Errno]int{}
	for i, w := range worlds() {
		s := source(i + 1)
		for range 500 {
			_, _, e := w.is(t, "any scheme", s.scheme(w, s.body()))
			counts[e]++
		}
		for _, body := range shapes() {
			_, _, e := w.is(t, "any terms", s.scheme(w, body))
			counts[e]++
		}
	}
	for _, e := range []api.Errno{api.OK, api.ErrUnsat, api.ErrArg} {
		if counts[e] < 300 {
			t.Errorf("schemes, by what is told: %v", counts)
		}
	}
}

// TestAsMuchAsMayBe: 64 variables of each sort, 256 bounds of each, 128 nodes.
func TestAsMuchAsMayBe(t *testing.T) {
	w := world{"64 labels, 64 effects", chain(64), sets(64)}
	s := api.Scheme{LVars: 64, EVars: 64, L: below(c(5), v(63)), E: below(c(1<<63), v(63))}
	for n := uint64(63); n > 0; n-- {
		s.L, s.E = append(s.L, below(v(n), v(n-1))...), append(s.E, below(v(n), v(n-1))...)
	}
	s.L, s.E = append(s.L, below(v(0), c(60))...), append(s.E, below(v(0), c(math.MaxUint64-1))...)
	s.L, s.E = slices.Concat(s.L, s.L, s.L, s.L)[:256], slices.Concat(s.E, s.E, s.E, s.E)[:256]
	var terms []api.Term
	for n := range uint64(64) {
		terms = append(terms, v(n))
	}
	s.Body = filled(wide(), terms, terms)
	labels, sets, e := w.is(t, "as much as may be", s)
	if e != api.OK || len(labels.Spots) != 191 || len(sets.Spots) != 63 || labels.Low[0] != 5 || sets.Low[0] != 1<<63 {
		t.Fatalf("as much as may be: %v", e)
	}
	s.L = append(s.L, below(v(0), v(0))...)
	w.fails(t, "one bound more", s, api.ErrLimit)
}

// TestSensesSayWhatAlwaysHolds: a variable's ends, and who is below whom, as all values tell of which the bounds hold.
func TestSensesSayWhatAlwaysHolds(t *testing.T) {
	for i, w := range small() {
		s := source(i + 70)
		for range 400 {
			k := s.scheme(w, shapes()[s.below(12)])
			k.LVars, k.EVars = min(k.LVars, 3), min(k.EVars, 3)
			labels, sets, e := senses.Of(k, w.l.s, w.x.s)
			if schemes.Check(k, w.l.s, w.x.s) != api.OK {
				continue
			}
			l, x := w.l.solutions(k.LVars, k.L), w.x.solutions(k.EVars, k.E)
			if e == api.OK != (len(l) > 0 && len(x) > 0) {
				t.Fatalf("%s: Of(%v): %v, of %d and %d solutions", w.name, k, e, len(l), len(x))
			}
			if e == api.OK {
				w.l.always(t, k, labels, l)
				w.x.always(t, k, sets, x)
			}
		}
	}
}

// solutions: all values of variables of which bounds hold, of a small sort.
func (k sort) solutions(vars int, l []api.Bound) (all [][]uint64) {
	one := make([]uint64, vars)
	var fill func(n int)
	fill = func(n int) {
		if n < vars {
			for _, one[n] = range k.few {
				fill(n + 1)
			}
			return
		}
		for _, b := range l {
			if !k.leq(valueOf(b.A, one), valueOf(b.B, one)) {
				return
			}
		}
		all = append(all, slices.Clone(one))
	}
	fill(0)
	return all
}

func valueOf(term api.Term, values []uint64) uint64 {
	if term.Var {
		return values[term.N]
	}
	return term.N
}

// always holds a sense against all solutions.
func (k sort) always(t *testing.T, s api.Scheme, z api.Sense, solutions [][]uint64) {
	t.Helper()
	for i, a := range z.Spots {
		low, high := k.top, k.bottom
		for _, one := range solutions {
			low, high = k.meet(low, valueOf(a.T, one)), k.join(high, valueOf(a.T, one))
		}
		if a.Side != api.SiDown && z.Low[i] != low || a.Side != api.SiUp && z.High[i] != high {
			t.Fatalf("%v: spot %d: from %d to %d, want from %d to %d", s, i, z.Low[i], z.High[i], low, high)
		}
		for j, b := range z.Spots {
			is := !slices.ContainsFunc(solutions, func(one []uint64) bool { return !k.leq(valueOf(a.T, one), valueOf(b.T, one)) })
			if z.Below[i][j] != (is && a.Side != api.SiUp && b.Side != api.SiDown) {
				t.Fatalf("%v: spots %d and %d: %v", s, i, j, z.Below[i][j])
			}
		}
	}
}

// P13.2

// three: a sense of a diamond's labels, at spots of all sides.
func three() api.Sense {
	return api.Sense{
		Spots: []api.Spot{{Node: 3, Part: api.PaPC, Side: api.SiUp}, {Node: 4, Side: api.SiDown, T: v(1)}, {Node: 6, Part: api.PaEffect, Side: api.SiBoth, T: c(2)}},
		Low:   []uint64{1, 0, 1}, High: []uint64{3, 1, 3},
		Below: [][]bool{{false, true, false}, {true, false, true}, {false, true, true}},
	}
}

// TestLessOfOneThatSaysMore: of each Low, High and Below alone, of the first sense or of the second one.
func TestLessOfOneThatSaysMore(t *testing.T) {
	k := cube(2)
	z := three()
	k.toldLess(t, "itself", z, like(z), true)
	for i := range 3 {
		for value := range uint64(4) {
			one := like(z)
			one.Low[i] = value
			k.toldLess(t, "a Low of the first one", one, z, value&^z.Low[i] == 0)
			k.toldLess(t, "a Low of the second one", z, one, z.Low[i]&^value == 0)
			one = like(z)
			one.High[i] = value
			k.toldLess(t, "a High of the first one", one, z, z.High[i]&^value == 0)
			k.toldLess(t, "a High of the second one", z, one, value&^z.High[i] == 0)
		}
		for j := range 3 {
			one := like(z)
			one.Below[i][j] = !one.Below[i][j]
			k.toldLess(t, "a Below of the first one", one, z, z.Below[i][j])
			k.toldLess(t, "a Below of the second one", z, one, !z.Below[i][j])
		}
	}
}

// TestLessOfOtherSpots: a node, a part or a side that is another one; what stands there may be.
func TestLessOfOtherSpots(t *testing.T) {
	k := cube(2)
	z := three()
	for i := range 3 {
		for name, with := range map[string]func(s *api.Spot){
			"another node": func(s *api.Spot) { s.Node++ }, "a node ahead": func(s *api.Spot) { s.Node = -1 },
			"another part": func(s *api.Spot) { s.Part = (s.Part + 1) % 3 }, "a part that there is not": func(s *api.Spot) { s.Part += 3 },
			"another side": func(s *api.Spot) { s.Side = (s.Side + 1) % 3 }, "the side before": func(s *api.Spot) { s.Side = (s.Side + 2) % 3 },
			"a side that there is not": func(s *api.Spot) { s.Side += 3 }, "the last number for a side": func(s *api.Spot) { s.Side = 255 },
		} {
			one := like(z)
			with(&one.Spots[i])
			k.toldLess(t, name, z, one, false)
			k.toldLess(t, name, one, z, false)
			k.toldLess(t, name+" in both", one, like(one), one.Spots[i].Side <= api.SiBoth)
		}
		for name, term := range map[string]api.Term{"a constant": c(7), "a variable": v(99), "nought": {}} {
			one := like(z)
			one.Spots[i].T = term
			k.toldLess(t, name, z, one, true)
			k.toldLess(t, name, one, z, true)
		}
	}
	// The first side that there is not.
	one := like(z)
	one.Spots[0].Side = 3
	k.toldLess(t, "side 3", one, one, false)
}

// TestLessOfHowManyThereAre: spots, and all else, fewer, as many, and more, of the first sense, of the second one, and of both.
func TestLessOfHowManyThereAre(t *testing.T) {
	k := cube(2)
	z := three()
	for name, with := range map[string]func(z *api.Sense){
		"fewer spots": func(z *api.Sense) { z.Spots = z.Spots[:2] }, "more spots": func(z *api.Sense) { z.Spots = append(z.Spots, z.Spots[0]) }, "no spots": func(z *api.Sense) { z.Spots = nil },
		"fewer Low": func(z *api.Sense) { z.Low = z.Low[:2] }, "more Low": func(z *api.Sense) { z.Low = append(z.Low, 0) }, "no Low": func(z *api.Sense) { z.Low = nil },
		"fewer High": func(z *api.Sense) { z.High = z.High[:2] }, "more High": func(z *api.Sense) { z.High = append(z.High, 3) }, "no High": func(z *api.Sense) { z.High = nil },
		"fewer rows": func(z *api.Sense) { z.Below = z.Below[:2] }, "more rows": func(z *api.Sense) { z.Below = append(z.Below, make([]bool, 3)) }, "no rows": func(z *api.Sense) { z.Below = nil },
		"a first row too short": func(z *api.Sense) { z.Below[0] = z.Below[0][:2] }, "a last row too short": func(z *api.Sense) { z.Below[2] = z.Below[2][:2] },
		"a first row too long": func(z *api.Sense) { z.Below[0] = append(z.Below[0], false) }, "a last row too long": func(z *api.Sense) { z.Below[2] = append(z.Below[2], false) },
		"a row of nothing": func(z *api.Sense) { z.Below[1] = nil },
	} {
		one := like(z)
		with(&one)
		k.toldLess(t, name+", of the first one", one, z, false)
		k.toldLess(t, name+", of the second one", z, one, false)
		k.toldLess(t, name+", of both", one, like(one), false)
	}
	fewer := api.Sense{Spots: z.Spots[:2], Low: z.Low[:2], High: z.High[:2], Below: [][]bool{{false, true}, {true, false}}}
	k.toldLess(t, "a spot fewer", fewer, fewer, true)
	k.toldLess(t, "a spot fewer, and three", fewer, z, false)
	k.toldLess(t, "three, and a spot fewer", z, fewer, false)
}

// TestLessOfNoSpots: nothing is said of none, whatever the sort is.
func TestLessOfNoSpots(t *testing.T) {
	none := []api.Sense{{}, {Spots: []api.Spot{}, Low: []uint64{}, High: []uint64{}, Below: [][]bool{}}, {Low: make([]uint64, 0, 4)}}
	for _, k := range append(nothing(), chain(2), sets(0)) {
		for _, a := range none {
			for _, b := range none {
				k.toldLess(t, "no spots", a, b, true)
			}
			k.toldLess(t, "none and three", a, three(), false)
			k.toldLess(t, "three and none", three(), a, false)
			for _, more := range []api.Sense{{Low: []uint64{0}}, {High: []uint64{0}}, {Below: [][]bool{nil}}, {Below: [][]bool{{true}}}} {
				k.toldLess(t, "more than none", more, a, false)
				k.toldLess(t, "none and more", a, more, false)
				k.toldLess(t, "more of both", more, more, false)
			}
		}
	}
}

// TestLessOfValuesThatThereAreNot: they are not below anything, themselves neither.
func TestLessOfValuesThatThereAreNot(t *testing.T) {
	for _, k := range []sort{chain(1), cube(2), turned(64), sets(0), sets(3), sets(63)} {
		z := three()
		for i := range 3 {
			z.Low[i], z.High[i] = k.bottom, k.top
		}
		k.toldLess(t, "values that there are", z, z, true)
		for _, value := range k.other {
			for i := range 3 {
				low, high := like(z), like(z)
				low.Low[i], high.High[i] = value, value
				for _, one := range []api.Sense{low, high} {
					k.toldLess(t, "a value of both", one, one, false)
					k.toldLess(t, "a value of the first one", one, z, false)
					k.toldLess(t, "a value of the second one", z, one, false)
				}
			}
		}
	}
	for _, k := range nothing() {
		k.toldLess(t, "a sort without values", three(), three(), false)
		k.toldLess(t, "a sort without values, noughts", noughts(1), noughts(1), false)
	}
}

// noughts: a sense of so many spots, of which nothing is said but noughts.
func noughts(n int) api.Sense {
	z := api.Sense{Spots: make([]api.Spot, n), Low: make([]uint64, n), High: make([]uint64, n), Below: make([][]bool, n)}
	for i := range z.Below {
		z.Below[i] = make([]bool, n)
	}
	return z
}

// anySense: one of so many spots, that no call made; often it may be one.
func (s *source) anySense(k sort, n int) api.Sense {
	z := noughts(n)
	all := append(slices.Clone(k.few), 0)
	if s.below(4) == 0 {
		all = append(all, k.other...)
	}
	for i := range n {
		z.Spots[i] = api.Spot{Node: s.below(2), Side: api.Side(s.below(2))}
		z.Low[i], z.High[i] = all[s.below(len(all))], all[s.below(len(all))]
		for j := range n {
			z.Below[i][j] = s.below(4) == 0
		}
	}
	switch i := s.below(20); {
	case i < 3:
		z.Low = slices.Repeat(z.Low, i)
	case i < 6:
		z.High = slices.Repeat(z.High, i-3)
	case i < 9:
		z.Below = slices.Repeat(z.Below, i-6)
	case i < 11 && n > 0:
		z.Below[s.below(n)] = slices.Repeat([]bool{false}, n-1+2*s.below(2))
	case i < 12 && n > 0:
		z.Spots[s.below(n)].Side = api.Side(s.below(256))
	}
	return z
}

func TestLessOfAnySenses(t *testing.T) {
	counts := map[bool]int{}
	var all []sort
	for _, w := range worlds() {
		all = append(all, w.l, w.x)
	}
	s := source(5)
	for range 40000 {
		k := all[s.below(len(all))]
		a := s.anySense(k, s.below(4))
		b := like(a)
		switch s.below(4) {
		case 0:
			b = s.anySense(k, s.below(4))
		case 1: // says more, if anything else
			for i := range b.Low {
				if i < len(b.High) && len(k.few) > 0 {
					b.Low[i] = k.join(b.Low[i], k.few[s.below(len(k.few))])
					b.High[i] = k.meet(b.High[i], k.few[s.below(len(k.few))])
				}
			}
		case 2:
			for _, row := range b.Below {
				for j := range row {
					row[j] = row[j] || s.below(2) == 0
				}
			}
		}
		counts[k.isLess(t, "any senses", a, b)]++
		counts[k.isLess(t, "any senses, turned round", b, a)]++
	}
	if counts[true] < 5000 || counts[false] < 5000 {
		t.Errorf("by what is told: %v", counts)
	}
}

// TestLessOfSensesOfSchemes: of schemes of one body, and of two; each says no less than itself.
func TestLessOfSensesOfSchemes(t *testing.T) {
	counts := map[bool]int{}
	for i, w := range worlds() {
		s := source(i + 40)
		var labels, sets []api.Sense
		for range 200 {
			k := s.scheme(w, shapes()[s.below(8)])
			if l, x, e := senses.Of(k, w.l.s, w.x.s); e == api.OK {
				w.l.toldLess(t, "a sense and itself", l, l, true)
				w.x.toldLess(t, "a sense and itself", x, x, true)
				labels, sets = append(labels, l), append(sets, x)
			}
		}
		for i := range labels {
			for j := range labels {
				counts[w.l.isLess(t, "labels", labels[i], labels[j])]++
				counts[w.x.isLess(t, "effects", sets[i], sets[j])]++
			}
		}
	}
	if counts[true] < 500 || counts[false] < 500 {
		t.Errorf("by what is told: %v", counts)
	}
}

// P13.3

// little: bodies of which all types can be gone through, where there are few values.
func little() [][]api.Node {
	i := anInt(c(0))
	return [][]api.Node{i, ref(c(0), i), tuple(c(0), i, i), plain(i, i), tuple(c(0), ref(c(0), i), i), ref(c(0), tuple(c(0), i, i)), tuple(c(0)), plain(ref(c(0), i), i)}
}

// all: each row of so many of these values.
func all(n int, of []uint64) [][]uint64 {
	rows := [][]uint64{nil}
	for range n {
		var longer [][]uint64
		for _, row := range rows {
			for _, value := range of {
				longer = append(longer, append(slices.Clone(row), value))
			}
		}
		rows = longer
	}
	return rows
}

// allTypes: all types of a body, without variables.
func (w world) allTypes(body []api.Node) (types [][]api.Node) {
	l, x := places(body)
	for _, labels := range all(len(l), w.l.few) {
		for _, sets := range all(len(x), w.x.few) {
			other := slices.Clone(body)
			for i, spot := range l {
				*at(other, spot) = c(labels[i])
			}
			for i, spot := range x {
				*at(other, spot) = c(sets[i])
			}
			types = append(types, other)
		}
	}
	return types
}

// types: which of all types of its body a scheme has: those that are above one that comes of values that hold.
func (w world) types(t *testing.T, s api.Scheme, of [][]api.Node) []bool {
	t.Helper()
	var least [][]api.Node
	for _, l := range w.l.solutions(s.LVars, s.L) {
		for _, x := range w.x.solutions(s.EVars, s.E) {
			body, e := schemes.Ground(s, l, x)
			if e != api.OK {
				t.Fatalf("Ground(%v): %v", s, e)
			}
			if !slices.ContainsFunc(least, func(other []api.Node) bool { return slices.Equal(other, body) }) {
				least = append(least, body)
			}
		}
	}
	has := make([]bool, len(of))
	for i, one := range of {
		has[i] = slices.ContainsFunc(least, func(body []api.Node) bool {
			is, e := grounds.Below(body, one, w.l.s.(*lattices.Lattice), w.x.s.(*effects.Effects))
			return is && e == api.OK
		})
	}
	return has
}

// fits: whether the values of a type are such as a sense says.
func (k sort) fits(z api.Sense, body []api.Node) bool {
	value := func(i int) uint64 { return at(body, z.Spots[i]).N }
	for i, a := range z.Spots {
		if a.Side != api.SiDown && !k.leq(z.Low[i], value(i)) || a.Side != api.SiUp && !k.leq(value(i), z.High[i]) {
			return false
		}
		for j := range z.Spots {
			if z.Below[i][j] && !k.leq(value(i), value(j)) {
				return false
			}
		}
	}
	return true
}

// littleWorlds: with few enough values, and many enough that some are not below others.
func littleWorlds() []world {
	return []world{{"two labels, one effect", chain(2), sets(1)}, {"three labels turned, no effects", turned(3), sets(0)}, {"a diamond, no effects", cube(2), sets(0)}, {"one label, two effects", chain(1), sets(2)}}
}

// littleScheme: one of few variables.
func (s *source) littleScheme(w world, body []api.Node) api.Scheme {
	k := api.Scheme{LVars: s.below(3), EVars: s.below(3)}
	k.L, k.E = s.bounds(w.l, k.LVars, s.below(3)), s.bounds(w.x, k.EVars, s.below(3))
	l, x := places(body)
	k.Body = filled(body, s.terms(w.l, k.LVars, len(l)), s.terms(w.x, k.EVars, max(len(x), 1)))
	return k
}

// TestTypesAreToldBySenses: a type is one of the scheme's just if it fits both senses; one scheme has all types of another one just if it says no more.
func TestTypesAreToldBySenses(t *testing.T) {
	counts := map[string]int{}
	for i, w := range littleWorlds() {
		s := source(i + 11)
		for _, body := range little() {
			of := w.allTypes(body)
			var have [][]bool
			var labels, sets []api.Sense
			for range 40 {
				k := s.littleScheme(w, body)
				l, x, e := senses.Of(k, w.l.s, w.x.s)
				has := w.types(t, k, of)
				if e == api.ErrUnsat != !slices.Contains(has, true) {
					t.Fatalf("%s: %v: %v, and of its types: %v", w.name, k, e, has)
				}
				if e != api.OK {
					counts["none"]++
					continue
				}
				for n, one := range of {
					if has[n] != (w.l.fits(l, one) && w.x.fits(x, one)) {
						t.Fatalf("%s: %v: has %v: %v; %v, %v", w.name, k, one, has[n], l, x)
					}
				}
				have, labels, sets = append(have, has), append(labels, l), append(sets, x)
			}
			for a := range have {
				for b := range have {
					covers := true
					for n := range of {
						covers = covers && (have[a][n] || !have[b][n])
					}
					if is := senses.Less(w.l.s, labels[a], labels[b]) && senses.Less(w.x.s, sets[a], sets[b]); is != covers {
						t.Fatalf("%s: %v and %v: Less: %v, and of their types: %v", w.name, labels[a], labels[b], is, covers)
					}
					if a != b && covers {
						counts["covers"]++
					} else if !covers {
						counts["does not cover"]++
					}
				}
			}
		}
	}
	if counts["none"] < 50 || counts["covers"] < 500 || counts["does not cover"] < 500 {
		t.Errorf("pairs gone through: %v", counts)
	}
}

// TestSensesTellNothingOfNames: nor of kinds: of bodies that are not the same, but have the same spots, the same is said.
func TestSensesTellNothingOfNames(t *testing.T) {
	w := littleWorlds()[0]
	bodies := append(little(), named(c(0)), ref(c(0), named(c(0))), plain(anInt(c(0)), named(c(0))))
	spots := func(body []api.Node) string { // the node and the side of each
		l, _ := places(body)
		var b strings.Builder
		for _, spot := range l {
			b.WriteByte(byte('a' + spot.Node))
			b.WriteByte(byte('a' + spot.Side))
		}
		return b.String()
	}
	for _, a := range bodies {
		for _, b := range bodies {
			l, x, _ := w.is(t, "a body", api.Scheme{Body: a})
			l2, x2, _ := w.is(t, "a body", api.Scheme{Body: b})
			is := senses.Less(w.l.s, l, l2) && senses.Less(w.x.s, x, x2)
			if is != (spots(a) == spots(b)) || types.Same(a, b) && !is {
				t.Errorf("%v and %v: Less: %v", a, b, is)
			}
		}
	}
}

// TestOneBoundMoreSaysNoLess: whatever bound it is, if any values hold still.
func TestOneBoundMoreSaysNoLess(t *testing.T) {
	more := 0
	for i, w := range small() {
		s := source(i + 300)
		for range 300 {
			k := s.scheme(w, shapes()[s.below(13)])
			l, x, e := senses.Of(k, w.l.s, w.x.s)
			if e != api.OK {
				continue
			}
			one := copied(k)
			one.L, one.E = append(one.L, s.bounds(w.l, k.LVars, s.below(2))...), append(one.E, s.bounds(w.x, k.EVars, s.below(2))...)
			l2, x2, e := w.is(t, "a bound more", one)
			if e != api.OK {
				continue
			}
			w.l.toldLess(t, "a bound more, of labels", l, l2, true)
			w.x.toldLess(t, "a bound more, of effects", x, x2, true)
			if !equal(l, l2) || !equal(x, x2) {
				more++
			}
		}
	}
	if more < 100 {
		t.Errorf("only %d bounds say more", more)
	}
}

// R1, R2

// anyNode: a node of fields with no rule to be seen, more often such as may be than chance would have it.
func (s *source) anyNode() api.Node {
	numbers := []int{0, 0, 1, 2, 3, 8, 9, 16, 17, -1, math.MinInt, math.MaxInt}
	n := []api.Node{
		{Kind: api.KdBase, Name: "int"}, {Kind: api.KdNamed, Name: "t"}, {Kind: api.KdTuple}, {Kind: api.KdTuple, Kids: 1}, {Kind: api.KdRef, Kids: 1}, {Kind: api.KdFun, Kids: 2},
	}[s.below(6)]
	if s.below(8) == 0 {
		n = api.Node{Kind: api.Kind(s.below(9) * s.below(9)), Mod: numbers[s.below(12)], Kids: numbers[s.below(12)], Name: []string{"", "int", "t", "\xff", strings.Repeat("n", 33)}[s.below(5)]}
	}
	n.L = s.anyTerm()
	if n.Kind == api.KdFun || s.below(20) == 0 {
		n.PC, n.E = s.anyTerm(), s.anyTerm()
	}
	return n
}

func (s *source) anyTerm() api.Term {
	numbers := []uint64{0, 0, 0, 1, 1, 2, 3, 63, 64, 65, 1 << 32, 1 << 63, math.MaxUint64}
	return api.Term{Var: s.below(2) == 0, N: numbers[s.below(5)*s.below(4)]}
}

// TestEveryCallEndsAtAnySchemes: whatever numbers stand in them, of whatever sorts.
func TestEveryCallEndsAtAnySchemes(t *testing.T) {
	s := source(1)
	all := worlds()
	vars := []int{0, 1, 2, 3, 64, 65, -1, 256, math.MinInt, math.MaxInt}
	counts := map[api.Errno]int{}
	for range 60000 {
		k := api.Scheme{LVars: vars[s.below(6)], EVars: vars[s.below(6)]}
		if s.below(9) == 0 {
			k.LVars, k.EVars = vars[s.below(10)], vars[s.below(10)]
		}
		for range 1 + s.below(5) {
			k.Body = append(k.Body, s.anyNode())
		}
		for range s.below(3) {
			k.L = append(k.L, api.Bound{A: s.anyTerm(), B: s.anyTerm()})
		}
		for range s.below(3) {
			k.E = append(k.E, api.Bound{A: s.anyTerm(), B: s.anyTerm()})
		}
		_, _, e := all[s.below(len(all))].is(t, "any numbers", k)
		counts[e]++
	}
	for _, e := range []api.Errno{api.OK, api.ErrArg, api.ErrForm, api.ErrLimit, api.ErrUnsat} {
		if counts[e] < 100 {
			t.Errorf("schemes, by what is told: %v", counts)
		}
	}
}

// TestEveryCallEndsAtGreatLists: faults are told without the lists, which are too long to be written.
func TestEveryCallEndsAtGreatLists(t *testing.T) {
	const most = 300000
	manyBounds := slices.Repeat(below(v(0), v(70)), most)
	great := noughts(0)
	great.Spots, great.Low, great.High, great.Below = make([]api.Spot, most), make([]uint64, most), make([]uint64, most), make([][]bool, most)
	slack := noughts(1)
	slack.Below[0] = make([]bool, most)
	for _, w := range worlds() {
		fails := func(name string, s api.Scheme) {
			if l, x, e := senses.Of(s, w.l.s, w.x.s); e != api.ErrLimit || len(l.Spots) != 0 || len(x.Spots) != 0 {
				t.Errorf("%s, %s: Of: %v", w.name, name, e)
			}
		}
		fails("a great body", api.Scheme{Body: slices.Repeat(anInt(c(0)), most)})
		fails("great lists of bounds", api.Scheme{L: manyBounds, E: manyBounds, Body: anInt(v(0))})
		fails("a great list of bounds", api.Scheme{E: manyBounds, Body: anInt(c(0)), LVars: 1})
		for _, k := range []sort{w.l, w.x} {
			if senses.Less(k.s, great, great) || senses.Less(k.s, great, noughts(1)) || senses.Less(k.s, noughts(1), great) || senses.Less(k.s, slack, noughts(1)) || senses.Less(k.s, noughts(1), slack) {
				t.Errorf("%s: Less of rows that are not there", w.name)
			}
			if z := noughts(1000); senses.Less(k.s, z, z) != k.less(z, z) {
				t.Errorf("%s: Less of 1000 spots", w.name)
			}
		}
	}
}

// R4

// roomy: a list with spare room behind it, as whole (l and its room) and as l.
func roomy[T any](l []T, room int, spare T) (whole, part []T) {
	whole = slices.Clip(slices.Concat(l, slices.Repeat([]T{spare}, room)))
	return whole, whole[:len(l)]
}

// handed: schemes that may be, and others, that the tests below hand in.
func handed(w world) (all []api.Scheme) {
	s := source(29)
	for range 40 {
		k := s.scheme(w, s.body())
		all = append(all, k)
		k = copied(k)
		k.Body = append(k.Body, s.anyNode())
		all = append(all, k)
	}
	terms := []api.Term{v(0), v(63), v(7)}
	return append(all, api.Scheme{}, api.Scheme{LVars: 64, EVars: 64, L: below(v(7), v(0)), E: below(v(0), v(7)), Body: filled(wide(), terms, terms)})
}

func TestWhatIsHandedInStaysAsItWas(t *testing.T) {
	spareNode := api.Node{Kind: 77, Name: "room", Kids: 5, L: v(8), PC: v(9), E: v(10)}
	for _, w := range worlds() {
		for _, k := range handed(w) {
			for _, room := range []int{0, 1, 300} {
				body, bodyPart := roomy(k.Body, room, spareNode)
				l, lPart := roomy(k.L, room, below(v(77), c(77))[0])
				x, xPart := roomy(k.E, room, below(c(78), v(78))[0])
				was := copied(api.Scheme{Body: body, L: l, E: x})
				w.is(t, "with room", api.Scheme{LVars: k.LVars, EVars: k.EVars, Body: bodyPart, L: lPart, E: xPart})
				if !slices.Equal(body, was.Body) || !slices.Equal(l, was.L) || !slices.Equal(x, was.E) {
					t.Fatalf("%s: %v became %v, %v and %v", w.name, was, body, l, x)
				}
			}
		}
	}
}

// spacious: a sense all of whose lists have spare room, as whole and as the sense.
func spacious(z api.Sense, room int) (whole, part api.Sense) {
	whole.Spots, part.Spots = roomy(z.Spots, room, api.Spot{Node: 77, Part: 3, Side: 9, T: v(7)})
	whole.Low, part.Low = roomy(z.Low, room, 77)
	whole.High, part.High = roomy(z.High, room, 78)
	rows := make([][]bool, len(z.Below))
	parts := make([][]bool, len(z.Below))
	for i, row := range z.Below {
		rows[i], parts[i] = roomy(row, room, true)
	}
	whole.Below, _ = roomy(rows, room, []bool{true})
	_, part.Below = roomy(parts, room, []bool{true})
	return whole, part
}

func TestLessLeavesSensesAsTheyWere(t *testing.T) {
	s := source(17)
	for _, w := range worlds() {
		for _, k := range []sort{w.l, w.x} {
			for range 60 {
				a, b := s.anySense(k, s.below(4)), s.anySense(k, s.below(4))
				for _, room := range []int{0, 1, 5} {
					wholeA, partA := spacious(a, room)
					wholeB, partB := spacious(b, room)
					wasA, wasB := like(wholeA), like(wholeB)
					k.isLess(t, "with room", partA, partB)
					k.isLess(t, "with room, itself", partA, partA)
					if !equal(wholeA, wasA) || !equal(wholeB, wasB) || !equal(partA, a) || !equal(partB, b) {
						t.Fatalf("%v and %v became %v and %v", wasA, wasB, wholeA, wholeB)
					}
				}
			}
		}
	}
	// The rows that stand in the room of Below are left there, too.
	z := three()
	rows, part := roomy(z.Below, 2, []bool{true})
	z.Below = part
	cube(2).toldLess(t, "rows in the room", z, z, true)
	if len(rows[3]) != 1 || len(rows[4]) != 1 {
		t.Errorf("rows in the room became %v", rows[3:])
	}
}

// TestSortsStayAsTheyWere: what they have they have after all calls.
func TestSortsStayAsTheyWere(t *testing.T) {
	for _, w := range worlds() {
		for _, k := range handed(w) {
			l, x, _ := w.is(t, "a scheme", k)
			w.l.isLess(t, "its labels", l, l)
			w.x.isLess(t, "its effects", x, x)
		}
		for _, k := range []sort{w.l, w.x} {
			for _, a := range append(slices.Clone(k.few), k.other...) {
				if k.s != nil && k.s.Has(a) != k.has(a) {
					t.Errorf("%s: Has(%d): %v", w.name, a, k.s.Has(a))
				}
			}
		}
	}
}

// TestSpareRoomIsNotRead: nodes and bounds stand in it that are missing, or that may not be; of senses what would make them another one.
func TestSpareRoomIsNotRead(t *testing.T) {
	w := diamond()
	for _, body := range shapes() {
		for end := range min(len(body), 30) {
			w.is(t, "a body cut off, with all of it behind", api.Scheme{Body: body[:end]})
		}
		_, part := roomy(body, 130, api.Node{Kind: 99, L: v(99)})
		_, l := roomy(below(v(0), c(1)), 300, below(c(3), v(0))[0])
		_, none := roomy([]api.Bound(nil), 300, below(v(99), c(99))[0])
		for _, s := range []api.Scheme{{LVars: 1, EVars: 1, Body: part, L: l, E: none}, {LVars: 1, EVars: 1, Body: part, L: none, E: l}} {
			if _, _, e := w.is(t, "with room", s); e != api.OK {
				t.Errorf("with room: %v", e)
			}
		}
	}
	z := three()
	for name, with := range map[string]func(z *api.Sense){
		"a spot in the room": func(z *api.Sense) { z.Spots = z.Spots[:2] }, "a Low in the room": func(z *api.Sense) { z.Low = z.Low[:2] },
		"a High in the room": func(z *api.Sense) { z.High = z.High[:2] }, "a row in the room": func(z *api.Sense) { z.Below = z.Below[:2] },
		"a bit in the room": func(z *api.Sense) { z.Below[2] = z.Below[2][:2] },
	} {
		one := like(z)
		with(&one)
		cube(2).toldLess(t, name, one, one, false)
		cube(2).toldLess(t, name, one, z, false)
		cube(2).toldLess(t, name, z, one, false)
	}
}

func TestEmptyAndNilMeanTheSame(t *testing.T) {
	noBounds := [][]api.Bound{nil, {}, make([]api.Bound, 0, 5), below(v(9), v(9))[:0], below(v(9), v(9))[1:]}
	for _, w := range worlds() {
		for _, l := range noBounds {
			for _, x := range noBounds {
				for _, body := range [][]api.Node{nil, {}, wide()[:0], wide()[128:], make([]api.Node, 0, 3)} {
					w.fails(t, "no nodes", api.Scheme{Body: body, L: l, E: x}, api.ErrArg)
				}
				w.is(t, "no bounds", api.Scheme{LVars: 1, Body: tuple(v(0), anInt(c(0))), L: l, E: x})
				w.is(t, "no bounds", api.Scheme{LVars: 1, EVars: 1, Body: fun(v(0), c(0), v(0), anInt(c(0)), anInt(v(0))), L: l, E: x})
			}
		}
	}
}

// scribble: writes other values over a list and its spare room.
func scribble[T any](l []T, over T) {
	l = l[:cap(l)]
	for i := range l {
		l[i] = over
	}
}

// scrawl: writes other values over all of a sense, and its spare room.
func scrawl(z api.Sense) {
	scribble(z.Spots, api.Spot{Node: 99, Part: 9, Side: 9, T: v(99)})
	scribble(z.Low, 9999)
	scribble(z.High, 8888)
	for _, row := range z.Below[:cap(z.Below)] {
		for i := range row[:cap(row)] {
			row[:cap(row)][i] = !row[:cap(row)][i]
		}
	}
	scribble(z.Below, []bool{true, false, true})
}

// TestAnswersOwnTheirMemory: what is written into one answer, and behind it, is to be seen nowhere else; nor what becomes of what was handed in.
func TestAnswersOwnTheirMemory(t *testing.T) {
	for _, w := range worlds() {
		for _, was := range handed(w) {
			k := copied(was)
			labels, sets, want := w.sense(copied(k))
			one, oneX, _ := senses.Of(k, w.l.s, w.x.s)
			other, otherX, e := senses.Of(k, w.l.s, w.x.s)
			scrawl(one)
			if !equal(oneX, sets) {
				t.Fatalf("%s: Of(%v): what was written over labels stands in effects", w.name, was)
			}
			scrawl(oneX)
			if e != want || !equal(other, labels) || !equal(otherX, sets) || !slices.Equal(k.Body, was.Body) || !slices.Equal(k.L, was.L) || !slices.Equal(k.E, was.E) {
				t.Fatalf("%s: Of(%v): what was written over an answer stands in another list", w.name, was)
			}
			w.is(t, "after an answer was written over", k)
			scribble(k.Body, api.Node{Kind: 99, Name: "other", L: v(6)})
			scribble(k.L, api.Bound{A: v(9)})
			scribble(k.E, api.Bound{B: v(9)})
			if !equal(other, labels) || !equal(otherX, sets) {
				t.Fatalf("%s: Of(%v): an answer became another one with what was handed in", w.name, was)
			}
		}
	}
}

// TestListsOfOneAnswerShareNothing: what is written over one list, and put behind it, is not to be seen in those beside it.
func TestListsOfOneAnswerShareNothing(t *testing.T) {
	w := diamond()
	terms := []api.Term{v(0), v(1), c(0), c(3)}
	s := api.Scheme{LVars: 2, EVars: 1, L: below(v(0), v(1), v(1), c(1)), Body: filled(shapes()[9], terms, terms[:1])}
	for sort := range 2 {
		told := func() api.Sense {
			l, x, _ := senses.Of(s, w.l.s, w.x.s)
			return []api.Sense{l, x}[sort]
		}
		want := told()
		n := len(want.Spots)
		for i := range n {
			z, is := told(), like(want)
			for range 3 {
				z.Below[i] = append(z.Below[i], true, false, true)
			}
			is.Below[i] = z.Below[i]
			if !equal(z, is) {
				t.Fatalf("what was put behind row %d stands in another one: %v", i, z.Below)
			}
			z, is = told(), like(want)
			scribble(z.Below[i], true)
			is.Below[i] = z.Below[i]
			if !equal(z, is) {
				t.Fatalf("what was written over row %d stands in another one: %v", i, z.Below)
			}
		}
		z, is := told(), like(want)
		scribble(z.Low, 77)
		is.Low = slices.Repeat([]uint64{77}, n)
		if !equal(z, is) {
			t.Fatalf("what was written over Low stands elsewhere: %v", z)
		}
		scribble(z.High, 78)
		is.High = slices.Repeat([]uint64{78}, n)
		if !equal(z, is) {
			t.Fatalf("what was written over High stands elsewhere: %v", z)
		}
	}
}

// TestNothingIsKept: what becomes of what was handed in changes no later answer but its own.
func TestNothingIsKept(t *testing.T) {
	w := diamond()
	s := api.Scheme{LVars: 1, EVars: 1, L: below(v(0), c(1)), Body: fun(v(0), c(0), v(0), anInt(c(1)), anInt(v(0)))}
	w.is(t, "at first", s)
	s.L[0] = below(c(2), v(0))[0]
	w.is(t, "another bound", s)
	s.Body[0].L, s.Body[0].E = c(3), c(1)
	labels, _, _ := w.is(t, "other terms", s)
	w.l.toldLess(t, "itself", labels, labels, true)
	other := like(labels)
	labels.Low[0] = 0
	w.l.toldLess(t, "a Low that is less", labels, other, true)
	w.l.toldLess(t, "a Low that is less", other, labels, false)
	labels.Low[0], labels.Below[1][0] = 3, false
	w.l.toldLess(t, "a Below less", other, labels, false)
	w.l.toldLess(t, "a Below less", labels, other, true)
	s.LVars = 65
	w.fails(t, "too many variables", s, api.ErrLimit)
	s.LVars, s.L[0] = 1, below(c(1), c(0))[0]
	w.fails(t, "none hold", s, api.ErrUnsat)
}

// R5

func TestAnswersHangOnArgumentsAlone(t *testing.T) {
	all := worlds()
	var done sync.WaitGroup
	for worker := range 8 {
		done.Go(func() {
			own := worlds()
			for i := range all {
				// Twice: of the same sorts as others ask, and of own ones.
				for _, w := range []world{all[(i+worker)%len(all)], own[i]} {
					for _, k := range handed(w) {
						labels, sets, want := w.sense(k)
						l, x, e := senses.Of(k, w.l.s, w.x.s)
						if e != want || !equal(l, labels) || !equal(x, sets) {
							t.Errorf("%s, beside others: Of(%v): %v, %v, %v", w.name, k, l, x, e)
						}
						if senses.Less(w.l.s, l, labels) != w.l.less(l, labels) || senses.Less(w.x.s, sets, x) != w.x.less(sets, x) {
							t.Errorf("%s, beside others: Less of %v, or of %v", w.name, l, x)
						}
					}
				}
			}
		})
	}
	done.Wait()
}
