package pairs_test

import (
	"cmp"
	"math"
	"slices"
	"strconv"
	"strings"
	"sync"
	"testing"

	"cartouche/api"
	"cartouche/bounds"
	"cartouche/effects"
	"cartouche/lattices"
	"cartouche/pairs"
	"cartouche/senses"
	"cartouche/spots"
)

// A sort is one that is handed in, and what the tests know of it by themselves.
type sort struct {
	name  string
	s     bounds.Sort
	few   []uint64 // some of its values, of a small one all; none, if it has none
	other []uint64 // some that are none of its values
	has   func(a uint64) bool
	leq   func(a, b uint64) bool // of its values

	bottom, top uint64
}

// below: what the sort is to tell, of whatever numbers.
func (k sort) below(a, b uint64) bool { return k.has(a) && k.has(b) && k.leq(a, b) }

func within(a, b uint64) bool { return a&^b == 0 }

// labels: the sort of them, whose values are 0 to n-1.
func labels(name string, n int, leq func(a, b uint64) bool) sort {
	rows := make([]uint64, n)
	for i := range rows {
		for j := range n {
			if leq(uint64(i), uint64(j)) {
				rows[i] |= 1 << j
			}
		}
	}
	l, e := lattices.New(rows)
	if e != api.OK {
		panic(name)
	}
	k := sort{name: name, s: l, leq: leq, has: func(a uint64) bool { return a < uint64(n) }, few: values(min(n, 4), 0)}
	if n > 4 {
		k.few = []uint64{0, uint64(n) - 1, uint64(n) / 2, 1}
	}
	k.other = []uint64{uint64(n), uint64(n) + 1, 1 << 32, 1 << 63, math.MaxUint64}
	for a := range uint64(n) {
		if !slices.ContainsFunc(values(n, 0), func(b uint64) bool { return !leq(a, b) }) {
			k.bottom = a
		}
		if !slices.ContainsFunc(values(n, 0), func(b uint64) bool { return !leq(b, a) }) {
			k.top = a
		}
	}
	return k
}

// sets: those of so many effects.
func sets(name string, n int) sort {
	all := uint64(1)<<n - 1
	x, e := effects.New(n)
	if e != api.OK {
		panic(name)
	}
	k := sort{name: name, s: x, top: all, leq: within, has: func(a uint64) bool { return a&^all == 0 }}
	if n <= 2 {
		k.few = values(1<<n, 0)
	} else {
		k.few = []uint64{0, all, all & 0x5555555555555555, all &^ 1}
	}
	if n < 64 {
		k.other = []uint64{1 << n, 1<<n | all, 1 << 63, math.MaxUint64}
	}
	return k
}

func chain(name string, n int) sort {
	return labels(name, n, func(a, b uint64) bool { return a <= b })
}

// diamond: labels 0, then 1 and 2 that are not below one another, then 3.
func diamond() sort { return labels("a diamond", 4, within) }

// fours: sorts whose values are 0 to 3, and below one another as the sets of two things are.
func fours() []sort { return []sort{diamond(), sets("two effects", 2)} }

// nothing: sorts that have no values: none that is there, or that a call made.
func nothing() (all []sort) {
	never := func(uint64) bool { return false }
	for _, s := range []bounds.Sort{nil, (*lattices.Lattice)(nil), (*effects.Effects)(nil), new(lattices.Lattice), new(effects.Effects)} {
		all = append(all, sort{name: "nothing", s: s, other: []uint64{0, 1, 2, 3, 64, math.MaxUint64}, has: never, leq: func(a, b uint64) bool { return false }})
	}
	return all
}

func sorts() []sort {
	turned := func(a, b uint64) bool { return a >= b }
	return append(append(fours(), nothing()...),
		chain("one label", 1), chain("two labels", 2), chain("64 labels", 64), labels("three labels turned", 3, turned), labels("64 labels in a cube", 64, within),
		sets("no effects", 0), sets("one effect", 1), sets("63 effects", 63), sets("64 effects", 64),
	)
}

// values: so many of them, rising from one on.
func values(n int, from uint64) (l []uint64) {
	for i := range n {
		l = append(l, from+uint64(i))
	}
	return l
}

// A sense, by the sides of its spots; all else is noughts.
func sided(sides ...api.Side) api.Sense {
	n := len(sides)
	z := api.Sense{Spots: make([]api.Spot, n), Low: make([]uint64, n), High: make([]uint64, n), Below: make([][]bool, n)}
	for i := range z.Below {
		z.Spots[i].Side, z.Below[i] = sides[i], make([]bool, n)
	}
	return z
}

const up, down, both = api.SiUp, api.SiDown, api.SiBoth

func sides() []api.Side { return []api.Side{up, down, both} }

// like: a sense, of which no list is shared.
func like(z api.Sense) api.Sense {
	z.Spots, z.Low, z.High, z.Below = slices.Clone(z.Spots), slices.Clone(z.Low), slices.Clone(z.High), slices.Clone(z.Below)
	for i, row := range z.Below {
		z.Below[i] = slices.Clone(row)
	}
	return z
}

// change: a sense in which something is another one.
func change(z api.Sense, with func(z *api.Sense)) api.Sense {
	z = like(z)
	with(&z)
	return z
}

func equal(a, b api.Sense) bool {
	return slices.Equal(a.Spots, b.Spots) && slices.Equal(a.Low, b.Low) && slices.Equal(a.High, b.High) && slices.EqualFunc(a.Below, b.Below, slices.Equal)
}

// A spot of a sense that a test writes down: its side, its ends, and the spots that it is Below.
type spot struct {
	side      api.Side
	low, high uint64
	below     []int
}

func at(side api.Side, low, high uint64, below ...int) spot { return spot{side, low, high, below} }

// sense: one of these spots.
func sense(l ...spot) api.Sense {
	z := sided(make([]api.Side, len(l))...)
	for i, is := range l {
		z.Spots[i].Side, z.Low[i], z.High[i] = is.side, is.low, is.high
		for _, k := range is.below {
			z.Below[i][k] = true
		}
	}
	return z
}

// moved: the sense whose spot i is that one's spot order[i].
func moved(z api.Sense, order []int) api.Sense {
	by := like(z)
	for i, from := range order {
		by.Spots[i], by.Low[i], by.High[i] = z.Spots[from], z.Low[from], z.High[from]
		for j, to := range order {
			by.Below[i][j] = z.Below[from][to]
		}
	}
	return by
}

// orders: all orders of so many.
func orders(n int) (all [][]int) {
	if n == 0 {
		return [][]int{nil}
	}
	for _, order := range orders(n - 1) {
		for i := range n {
			all = append(all, slices.Insert(slices.Clone(order), i, n-1))
		}
	}
	return all
}

func v(n uint64) api.Term { return api.Term{Var: true, N: n} }
func c(n uint64) api.Term { return api.Term{N: n} }

// name: a term as text: V0, or a value.
func name(term api.Term) string {
	if term.Var {
		return "V" + strconv.FormatUint(term.N, 10)
	}
	return strconv.FormatUint(term.N, 10)
}

// list: terms as text, and how many variables there are: V0 3 V0; 1.
func list(l []api.Term, vars int) string {
	var words []string
	for _, term := range l {
		words = append(words, name(term))
	}
	return strings.Join(words, " ") + "; " + strconv.Itoa(vars)
}

// chains: bounds as text: 1<V0 V0<V1.
func chains(l []api.Bound) string {
	var words []string
	for _, bound := range l {
		words = append(words, name(bound.A)+"<"+name(bound.B))
	}
	return strings.Join(words, " ")
}

// What the tests ask for is worked out by themselves: spots and classes two at a time, as the chapters have it.

// whole: whether a sense has as much of each as it has spots, and no side that there is not.
func whole(z api.Sense) bool {
	n := len(z.Spots)
	if len(z.Low) != n || len(z.High) != n || len(z.Below) != n {
		return false
	}
	for i := range n {
		if len(z.Below[i]) != n || !slices.Contains(sides(), z.Spots[i].Side) {
			return false
		}
	}
	return true
}

// sameUnder: whether just the same spots are Below both.
func sameUnder(z api.Sense, i, j int) bool {
	for k := range z.Spots {
		if z.Below[k][i] != z.Below[k][j] {
			return false
		}
	}
	return true
}

// sameBeyond: whether both are Below just the same spots.
func sameBeyond(z api.Sense, i, j int) bool { return slices.Equal(z.Below[i], z.Below[j]) }

func alike(z api.Sense, i, j int) bool {
	if z.Spots[i].Side != z.Spots[j].Side {
		return false
	}
	upwards, downwards := z.Low[i] == z.Low[j] && sameUnder(z, i, j), z.High[i] == z.High[j] && sameBeyond(z, i, j)
	switch z.Spots[i].Side {
	case up:
		return upwards
	case down:
		return downwards
	}
	return upwards && downwards && z.Below[i][j] && z.Below[j][i]
}

// fixed: whether a spot is, and its value.
func (k sort) fixed(z api.Sense, i int) (is bool, value uint64) {
	is, value = true, z.Low[i]
	if z.Spots[i].Side == down {
		value = z.High[i]
	}
	for j := range z.Spots {
		switch z.Spots[i].Side {
		case up:
			is = is && (!z.Below[j][i] || k.below(z.High[j], value))
		case down:
			is = is && (!z.Below[i][j] || k.below(value, z.Low[j]))
		case both:
			is = value == z.High[i]
		}
	}
	return is, value
}

// class: the first spot that is alike, of a spot that is not fixed.
func class(z api.Sense, i int) (first int) {
	for first < i && !alike(z, first, i) {
		first++
	}
	return first
}

// classes: those of one side, by their first spots.
func (k sort) classes(z api.Sense, side api.Side) (l []int) {
	for i := range z.Spots {
		if is, _ := k.fixed(z, i); !is && z.Spots[i].Side == side && class(z, i) == i {
			l = append(l, i)
		}
	}
	return l
}

// may: whether a class that goes down and one that goes up may be one.
func (k sort) may(z api.Sense, d, u int) bool {
	if !z.Below[d][u] || !k.below(z.Low[u], z.High[d]) {
		return false
	}
	for i := range z.Spots {
		for m := range z.Spots {
			if z.Below[i][u] && z.Below[d][m] && !(z.Below[i][m] && k.below(z.Low[u], z.Low[m]) && k.below(z.High[i], z.High[d])) {
				return false
			}
		}
	}
	return true
}

// variables: of each its classes, in the order of their first spots; counts, if there is one, what it saw.
func (k sort) variables(z api.Sense, counts map[string]int) (all [][]int) {
	if counts == nil {
		counts = map[string]int{}
	}
	boths := k.classes(z, both)
	homes := map[int][]int{}
	for _, b := range boths {
		homes[b] = []int{b}
	}
	var downs, ups []int
	for _, d := range k.classes(z, down) {
		if at := slices.IndexFunc(boths, func(b int) bool { return z.High[d] == z.High[b] && sameBeyond(z, d, b) }); at >= 0 {
			counts["down, with one that goes both"]++
			homes[boths[at]] = append(homes[boths[at]], d)
		} else {
			downs = append(downs, d)
		}
	}
	for _, u := range k.classes(z, up) {
		if at := slices.IndexFunc(boths, func(b int) bool { return z.Low[u] == z.Low[b] && sameUnder(z, u, b) }); at >= 0 {
			counts["up, with one that goes both"]++
			homes[boths[at]] = append(homes[boths[at]], u)
		} else {
			ups = append(ups, u)
		}
	}
	for _, d := range downs {
		homes[d] = []int{d}
		if at := slices.IndexFunc(ups, func(u int) bool { return k.may(z, d, u) }); at >= 0 {
			counts["a pair"]++
			homes[d] = append(homes[d], ups[at])
			ups = slices.Delete(ups, at, at+1)
		} else {
			counts["down, alone"]++
		}
	}
	for _, u := range ups {
		counts["up, alone"]++
		homes[u] = []int{u}
	}
	for i := range z.Spots {
		for _, home := range homes {
			if slices.Min(home) == i {
				all = append(all, home)
			}
		}
	}
	return all
}

// terms: what Of is to tell of a sense that is whole, whose variables are these.
func (k sort) terms(z api.Sense, variables [][]int) (l []api.Term) {
	for i := range z.Spots {
		if is, value := k.fixed(z, i); is {
			l = append(l, c(value))
			continue
		}
		of := class(z, i)
		l = append(l, v(uint64(slices.IndexFunc(variables, func(all []int) bool { return slices.Contains(all, of) }))))
	}
	return l
}

// of: the first one of some classes that goes that way, or both.
func of(z api.Sense, classes []int, side api.Side) (at int, there bool) {
	n := slices.IndexFunc(classes, func(i int) bool { return z.Spots[i].Side == side || z.Spots[i].Side == both })
	if n < 0 {
		return 0, false
	}
	return classes[n], true
}

// under: whether one variable is under another one.
func (k sort) under(z api.Sense, variables [][]int, a, b int) bool {
	d, hasDown := of(z, variables[a], down)
	u, hasUp := of(z, variables[b], up)
	return a != b && hasDown && hasUp && z.Below[d][u] && !k.below(z.High[d], z.Low[u])
}

// bounds: what Bounds is to tell of those variables; counts, if there is one, what it saw.
func (k sort) bounds(z api.Sense, variables [][]int, counts map[string]int) (l []api.Bound) {
	if counts == nil {
		counts = map[string]int{}
	}
	for i, classes := range variables {
		is := v(uint64(i))
		if u, there := of(z, classes, up); there && z.Low[u] != k.bottom {
			counts["a Low"]++
			l = append(l, api.Bound{A: c(z.Low[u]), B: is})
		}
		if d, there := of(z, classes, down); there && z.High[d] != k.top {
			counts["a High"]++
			l = append(l, api.Bound{A: is, B: c(z.High[d])})
		}
		for j := range variables {
			if !k.under(z, variables, i, j) {
				continue
			}
			third := false
			for m := range variables {
				third = third || m != i && m != j && k.under(z, variables, i, m) && k.under(z, variables, m, j)
			}
			if third {
				counts["under, by a third one"]++
			} else {
				counts["under"]++
				l = append(l, api.Bound{A: is, B: v(uint64(j))})
			}
		}
	}
	return l
}

// want: what both are to tell.
func (k sort) want(z api.Sense, counts map[string]int) (l []api.Term, vars int, b []api.Bound) {
	if !whole(z) {
		return nil, 0, nil
	}
	variables := k.variables(z, counts)
	return k.terms(z, variables), len(variables), k.bounds(z, variables, counts)
}

// is holds both against what they are to tell; it tells that.
func (k sort) is(t *testing.T, name string, z api.Sense, counts map[string]int) (l []api.Term, vars int, b []api.Bound) {
	t.Helper()
	l, vars, b = k.want(z, counts)
	of, n := pairs.Of(k.s, z)
	if !slices.Equal(of, l) || n != vars {
		t.Fatalf("%s, %s: Of(%v):\n%s, want\n%s", k.name, name, z, list(of, n), list(l, vars))
	}
	if told := pairs.Bounds(k.s, z, l, vars); !slices.Equal(told, b) {
		t.Fatalf("%s, %s: Bounds(%v, %s):\n%s, want\n%s", k.name, name, z, list(l, vars), chains(told), chains(b))
	}
	return l, vars, b
}

// told holds both against what is written there; the tests' own, too.
func (k sort) told(t *testing.T, name string, z api.Sense, terms, bounds string) {
	t.Helper()
	l, vars, b := k.is(t, name, z, nil)
	if list(l, vars) != terms || chains(b) != bounds {
		t.Fatalf("%s, %s: %v:\n%s and %s, want\n%s and %s", k.name, name, z, list(l, vars), chains(b), terms, bounds)
	}
}

// toldOf holds Of alone against what is written there.
func (k sort) toldOf(t *testing.T, name string, z api.Sense, terms string) {
	t.Helper()
	if l, vars, _ := k.is(t, name, z, nil); list(l, vars) != terms {
		t.Fatalf("%s, %s: %v:\n%s, want\n%s", k.name, name, z, list(l, vars), terms)
	}
}

// nothing holds both against nothing.
func (k sort) nothing(t *testing.T, name string, z api.Sense) {
	t.Helper()
	l, vars := pairs.Of(k.s, z)
	if len(l) != 0 || vars != 0 {
		t.Fatalf("%s, %s: Of(%v): %s", k.name, name, z, list(l, vars))
	}
	for _, l := range [][]api.Term{nil, {v(0)}, {c(0)}, make([]api.Term, len(z.Spots)), slices.Repeat([]api.Term{v(0)}, len(z.Spots))} {
		for _, vars := range []int{0, 1, 2, -1} {
			if b := pairs.Bounds(k.s, z, l, vars); len(b) != 0 {
				t.Fatalf("%s, %s: Bounds(%v, %s): %s", k.name, name, z, list(l, vars), chains(b))
			}
		}
	}
}

// A source tells numbers with no rule to be seen in them, the same ones each time.
type source uint64

// below: the next one, below n.
func (s *source) below(n int) int {
	*s = *s*6364136223846793005 + 1442695040888963407
	return int(*s >> 33 % source(n))
}

// anySense: one of so many spots, that no call made; of few values, so that spots are alike; often it may be one.
func (s *source) anySense(k sort, n int) api.Sense {
	z := sided(make([]api.Side, n)...)
	all := append(slices.Clone(k.few), 0)
	if s.below(4) == 0 {
		all = append(all, k.other...)
	}
	all = all[:1+s.below(len(all))]
	often := 1 + s.below(8)
	for i := range n {
		z.Spots[i] = api.Spot{Node: s.below(2), Part: api.Part(s.below(4)), Side: api.Side(s.below(3)), T: api.Term{Var: s.below(2) == 0, N: uint64(s.below(3))}}
		z.Low[i], z.High[i] = all[s.below(len(all))], all[s.below(len(all))]
		for j := range n {
			z.Below[i][j] = s.below(often) == 0
		}
	}
	if n > 1 && s.below(4) > 0 {
		for range s.below(n) {
			s.twin(z, s.below(n), s.below(n))
		}
	}
	if s.below(20) == 0 {
		s.spoil(&z)
	}
	return z
}

// twin makes one spot nearly as another one is; often it goes that way too.
func (s *source) twin(z api.Sense, from, to int) {
	if s.below(2) == 0 {
		z.Spots[to].Side = z.Spots[from].Side
	}
	z.Low[to], z.High[to] = z.Low[from], z.High[from]
	copy(z.Below[to], z.Below[from])
	for k := range z.Below {
		z.Below[k][to] = z.Below[k][from]
	}
}

// spoil takes something from a sense, or gives it something, that it should or should not have.
func (s *source) spoil(z *api.Sense) {
	n := len(z.Spots)
	switch i := s.below(12); {
	case i < 3:
		z.Low = slices.Repeat(z.Low, i)
	case i < 6:
		z.High = slices.Repeat(z.High, i-3)
	case i < 9:
		z.Below = slices.Repeat(z.Below, i-6)
	case i < 11 && n > 0:
		z.Below[s.below(n)] = slices.Repeat([]bool{false}, n-1+2*s.below(2))
	case n > 0:
		z.Spots[s.below(n)].Side = api.Side(s.below(256))
	}
}

// term: one that may stand where there are so many variables of a sort.
func (s *source) term(k sort, vars int) api.Term {
	if vars > 0 && s.below(5) > 0 {
		return v(uint64(s.below(vars)))
	}
	return c(k.few[s.below(len(k.few))])
}

func (s *source) terms(k sort, vars, n int) (l []api.Term) {
	for range n {
		l = append(l, s.term(k, vars))
	}
	return l
}

func (s *source) bounds(k sort, vars, n int) (l []api.Bound) {
	for range n {
		l = append(l, api.Bound{A: s.term(k, vars), B: s.term(k, vars)})
	}
	return l
}

// body: one that may be, of few nodes; its terms are noughts.
func (s *source) body(depth int) []api.Node {
	kind := s.below(8)
	if depth < 2 {
		kind = 0
	}
	switch kind {
	case 0:
		return []api.Node{{Kind: api.KdBase, Name: "int"}}
	case 1, 2:
		body := []api.Node{{Kind: api.KdTuple, Kids: s.below(5)}}
		for range body[0].Kids {
			body = append(body, s.body(depth-1)...)
		}
		return body
	case 3:
		return append([]api.Node{{Kind: api.KdRef, Kids: 1}}, s.body(depth-1)...)
	}
	return slices.Concat([]api.Node{{Kind: api.KdFun, Kids: 2}}, s.body(depth-1), s.body(depth-1))
}

// scheme: one that may be, of those sorts.
func (s *source) scheme(l, x sort) api.Scheme {
	k := api.Scheme{LVars: s.below(7), EVars: s.below(7)}
	body := s.body(2 + s.below(4))
	for len(body) > 30 {
		body = s.body(3)
	}
	labels, effects := spots.Of(body)
	own := s.below(2) == 0
	if own {
		k.LVars, k.EVars = len(labels), len(effects)
	}
	k.L, k.E = s.bounds(l, k.LVars, s.below(8+k.LVars)), s.bounds(x, k.EVars, s.below(8+k.EVars))
	places, acts := s.terms(l, k.LVars, len(labels)), s.terms(x, k.EVars, len(effects))
	if own { // each spot has a variable of its own
		for i := range places {
			places[i] = v(uint64(i))
		}
		for i := range acts {
			acts[i] = v(uint64(i))
		}
	}
	k.Body, _ = spots.Put(body, places, acts)
	return k
}

// nearly: a sense of a scheme's labels, where a few things are other ones.
func (s *source) nearly(k sort) api.Sense {
	z, _, e := senses.Of(s.scheme(k, sets("one effect", 1)), k.s, sets("one effect", 1).s)
	n := len(z.Spots)
	if e != api.OK || n == 0 {
		return api.Sense{}
	}
	z = like(z)
	for range s.below(4) {
		i, value := s.below(n), k.few[s.below(len(k.few))]
		switch s.below(6) {
		case 0:
			z.Low[i] = value
		case 1:
			z.High[i] = value
		case 2:
			z.Spots[i].Side = api.Side(s.below(3))
		default:
			j := s.below(n)
			z.Below[i][j] = !z.Below[i][j]
		}
	}
	return z
}

// The chapter's examples.

// aFun: a function from int to int, of those terms: its own label, the argument's and the result's; its PC is 0, and it does nothing.
func aFun(own, argument, result api.Term) []api.Node {
	an := func(term api.Term) api.Node { return api.Node{Kind: api.KdBase, Name: "int", L: term} }
	return []api.Node{{Kind: api.KdFun, Kids: 2, L: own}, an(argument), an(result)}
}

func TestExamples(t *testing.T) {
	l, x := chain("0 below 1", 2), sets("no effects", 0)
	z, does, e := senses.Of(api.Scheme{LVars: 1, Body: aFun(c(0), v(0), v(0))}, l.s, x.s)
	if e != api.OK {
		t.Fatal(e)
	}
	l.told(t, "a function's labels", z, "0 0 V0 V0; 1", "")
	x.told(t, "a function's effects", does, "0; 0", "")
	one := api.Scheme{LVars: 3, Body: aFun(v(0), v(1), v(2)), L: []api.Bound{{A: v(1), B: v(0)}, {A: v(0), B: v(2)}}}
	z, _, e = senses.Of(one, l.s, x.s)
	if e != api.OK {
		t.Fatal(e)
	}
	l.told(t, "a function of three variables", z, "V0 0 V0 V0; 1", "")
}

// P15.1

// TestFixedSpots: their terms are their values, and no variables are told of them.
func TestFixedSpots(t *testing.T) {
	for _, k := range sorts() {
		for _, value := range slices.Concat(k.few, k.other) {
			text := strconv.FormatUint(value, 10)
			k.told(t, "fixed alone", sense(at(up, value, 99), at(down, 99, value), at(both, value, value)), text+" "+text+" "+text+"; 0", "")
			k.told(t, "fixed, alike", sense(at(both, value, value, 0, 1), at(both, value, value, 0, 1), at(up, value, 0)), text+" "+text+" "+text+"; 0", "")
			if k.has(value) {
				k.told(t, "fixed by what is Below", sense(at(down, 98, value, 1), at(up, value, 98)), text+" "+text+"; 0", "")
			}
		}
	}
	k := chain("64 labels", 64)
	k.told(t, "fixed at others", sense(at(down, 98, 7, 1), at(up, 9, 98), at(up, 5, 5), at(both, 63, 63, 3)), "7 9 5 63; 0", "")
	k.told(t, "fixed, and not", sense(at(both, 7, 7, 0), at(both, 7, 8, 1), at(both, 8, 8, 2), at(both, 9, 8, 3)), "7 V0 8 V1; 2", "7<V0 V0<8 9<V1 V1<8")
}

// TestClasses: of one spot and of more, of each side, none of them one with another one.
func TestClasses(t *testing.T) {
	for _, k := range fours() {
		three := []spot{at(down, 0, 1, 1), at(up, 2, 0), at(both, 0, 3, 2)}
		k.told(t, "of one spot each", sense(three...), "V0 V1 V2; 3", "V0<1 V0<V1 2<V1")
		more := sense(at(down, 0, 1, 1, 4, 7), at(up, 2, 0), at(both, 0, 3, 2, 5, 8), at(down, 3, 1, 1, 4, 7), at(up, 2, 3), at(both, 0, 3, 2, 5, 8), at(down, 2, 1, 1, 4, 7), at(up, 2, 1), at(both, 0, 3, 2, 5, 8))
		k.told(t, "of three spots each", more, "V0 V1 V2 V0 V1 V2 V0 V1 V2; 3", "V0<1 V0<V1 2<V1")
	}
}

// tied: a sense of spots x, d, b, u, y: x and d go down, b both, u and y go up; each is Below each that it may be. d and u are one with b, x and y with none.
func tied() api.Sense {
	return sense(at(down, 0, 1, 2, 3, 4), at(down, 0, 3, 2, 3, 4), at(both, 0, 3, 2, 3, 4), at(up, 0, 0), at(up, 1, 0))
}

// areTied holds of such a sense whether d, and u, are one with b.
func (k sort) areTied(t *testing.T, name string, z api.Sense, dIs, uIs bool) {
	t.Helper()
	l, _, _ := k.is(t, name, z, nil)
	if (l[1] == l[2]) != dIs || (l[3] == l[2]) != uIs {
		t.Fatalf("%s, %s: %v: %s", k.name, name, z, list(l, 0))
	}
}

func TestOneWithAClassThatGoesBoth(t *testing.T) {
	for _, k := range fours() {
		z := tied()
		k.told(t, "as they are", z, "V0 V1 V1 V1 V2; 3", "V0<1 V0<V1 V1<V2 1<V2")
		for value := range uint64(5) {
			ends := []struct {
				name     string
				of       func(z *api.Sense) *uint64
				dIs, uIs bool
			}{
				{"d's Low", func(z *api.Sense) *uint64 { return &z.Low[1] }, true, true},
				{"d's High", func(z *api.Sense) *uint64 { return &z.High[1] }, value == 3, true},
				{"u's Low", func(z *api.Sense) *uint64 { return &z.Low[3] }, true, value == 0},
				{"u's High", func(z *api.Sense) *uint64 { return &z.High[3] }, true, true},
			}
			if value > 0 && value < 3 {
				ends = append(ends, ends[0], ends[0])
				ends[4].name, ends[4].of, ends[4].uIs = "b's Low", func(z *api.Sense) *uint64 { return &z.Low[2] }, false
				ends[5].name, ends[5].of, ends[5].dIs = "b's High", func(z *api.Sense) *uint64 { return &z.High[2] }, false
			}
			for _, end := range ends {
				k.areTied(t, end.name, change(z, func(z *api.Sense) { *end.of(z) = value }), end.dIs, end.uIs)
			}
		}
	}
}

// TestOneWithAClassThatGoesBothByRows: each place of Below turned alone; then at two places at once, so that rows, or columns, are the same again.
func TestOneWithAClassThatGoesBothByRows(t *testing.T) {
	for _, k := range fours() {
		turn := func(z *api.Sense, i, j int) { z.Below[i][j] = !z.Below[i][j] }
		for i := range 5 {
			for j := range 5 {
				ofRow, ofColumn := i == 1 || i == 2, j == 2 || j == 3
				k.areTied(t, "one place", change(tied(), func(z *api.Sense) { turn(z, i, j) }), !ofRow, !ofColumn)
				k.areTied(t, "another Low and another place", change(tied(), func(z *api.Sense) { z.Low[3] = 1; turn(z, i, j) }), !ofRow, false)
				k.areTied(t, "another High and another place", change(tied(), func(z *api.Sense) { z.High[1] = 2; turn(z, i, j) }), false, !ofColumn)
			}
			k.areTied(t, "both rows", change(tied(), func(z *api.Sense) { turn(z, 1, i); turn(z, 2, i) }), true, i != 2 && i != 3)
			k.areTied(t, "both columns", change(tied(), func(z *api.Sense) { turn(z, i, 2); turn(z, i, 3) }), i != 1 && i != 2, true)
		}
	}
}

// TestOneWithTheFirstClassThatGoesBoth: where there are two, in all orders of the spots.
func TestOneWithTheFirstClassThatGoesBoth(t *testing.T) {
	for _, k := range fours() {
		for _, order := range orders(4) {
			// Two that go both, told apart by their Low, and one that goes down; one that goes up keeps them all from being fixed.
			places := make([]int, 4)
			for i, from := range order {
				places[from] = i
			}
			first := min(places[0], places[1])
			z := moved(sense(at(both, 0, 3, 0, 1, 3), at(both, 1, 3, 0, 1, 3), at(down, 0, 3, 0, 1, 3), at(up, 2, 0)), order)
			l, vars, _ := k.is(t, "two of one High", z, nil)
			if vars != 3 || l[places[2]] != l[first] {
				t.Fatalf("%s: %v: %s", k.name, z, list(l, vars))
			}
			// The first one of another High is not asked.
			z.High[first] = 2
			l, vars, _ = k.is(t, "one of that High", z, nil)
			if vars != 3 || l[places[2]] != l[places[0]+places[1]-first] {
				t.Fatalf("%s: %v: %s", k.name, z, list(l, vars))
			}
			z = moved(sense(at(both, 0, 3, 0, 1, 2), at(both, 0, 2, 0, 1, 2), at(up, 0, 0), at(down, 0, 1, 0, 1, 2)), order)
			l, vars, _ = k.is(t, "two of one Low", z, nil)
			if vars != 3 || l[places[2]] != l[first] {
				t.Fatalf("%s: %v: %s", k.name, z, list(l, vars))
			}
			z.Low[first] = 1
			l, vars, _ = k.is(t, "one of that Low", z, nil)
			if vars != 3 || l[places[2]] != l[places[0]+places[1]-first] {
				t.Fatalf("%s: %v: %s", k.name, z, list(l, vars))
			}
		}
	}
}

// TestOneWithNoFixedSpot: a spot that goes both and is fixed is of no class.
func TestOneWithNoFixedSpot(t *testing.T) {
	for _, k := range fours() {
		k.told(t, "a High", sense(at(down, 0, 3, 1, 2), at(both, 3, 3, 1, 2), at(up, 0, 0)), "V0 3 V0; 1", "")
		k.told(t, "a Low", sense(at(down, 0, 3, 1, 2), at(both, 0, 0, 1, 2), at(up, 0, 0)), "V0 0 V0; 1", "")
	}
}

// knot: a sense of spots k, m, d, u, l, n: k, d and l go down, m, u and n go up, and all those are Below all these; d and u are one, for d's High is 3, and u's Low is 0; the others are none's.
func knot() api.Sense {
	return sense(at(down, 0, 1, 1, 3, 5), at(up, 1, 0), at(down, 0, 3, 1, 3, 5), at(up, 0, 0), at(down, 0, 2, 1, 3, 5), at(up, 2, 0))
}

// isKnot holds of such a sense whether d and u are one.
func (k sort) isKnot(t *testing.T, name string, z api.Sense, is bool) {
	t.Helper()
	if l, vars, _ := k.is(t, name, z, nil); (l[2] == l[3]) != is {
		t.Fatalf("%s, %s: %v: %s", k.name, name, z, list(l, vars))
	}
}

func TestWhatMayBeOne(t *testing.T) {
	for _, k := range fours() {
		k.told(t, "as they are", knot(), "V0 V1 V2 V2 V3 V4; 5", "V0<1 V0<V2 1<V1 V2<V1 V2<V4 V3<2 V3<V2 2<V4")
		k.told(t, "two alone", sense(at(down, 0, 3, 1), at(up, 0, 0)), "V0 V0; 1", "")
		k.told(t, "two alone, turned", sense(at(up, 0, 0), at(down, 0, 3, 0)), "V0 V0; 1", "")
		k.told(t, "two alone, of other ends", sense(at(down, 0, 2, 1), at(up, 0, 0)), "V0 V0; 1", "V0<2")
		k.told(t, "u's Low not below d's High", sense(at(down, 0, 2, 1), at(up, 1, 0)), "V0 V1; 2", "V0<2 V0<V1 1<V1")
		k.isKnot(t, "d not Below u", change(knot(), func(z *api.Sense) { z.Below[2][3] = false }), false)
		for _, i := range []int{0, 2, 4} {
			for _, m := range []int{1, 3, 5} {
				k.isKnot(t, "k not Below m", change(knot(), func(z *api.Sense) { z.Below[i][m] = false }), i == 2 && m != 3 || i != 2 && m == 3)
			}
		}
		for _, i := range []int{0, 4} {
			for value := range uint64(6) {
				k.isKnot(t, "k's High", change(knot(), func(z *api.Sense) { z.High[i] = value }), value < 4)
				k.isKnot(t, "k's High, another High of d", change(knot(), func(z *api.Sense) { z.High[0], z.High[4], z.High[2] = 0, 0, 1; z.High[i] = value }), value < 2)
			}
		}
		for _, m := range []int{1, 5} {
			for value := range uint64(6) {
				k.isKnot(t, "m's Low", change(knot(), func(z *api.Sense) { z.Low[m] = value }), value < 4)
				k.isKnot(t, "m's Low, another Low of u", change(knot(), func(z *api.Sense) { z.Low[1], z.Low[5], z.Low[3] = 3, 3, 2; z.Low[m] = value }), value == 2 || value == 3)
			}
		}
		for low := range uint64(4) {
			for high := range uint64(4) {
				ends := func(z *api.Sense) {
					z.Low[1], z.Low[5], z.Low[3] = 3, 3, low
					z.High[0], z.High[4], z.High[2] = 0, 0, high
				}
				is := within(low, high) && high != 0 && low != 3 // else they are fixed
				k.isKnot(t, "u's Low and d's High", change(knot(), ends), is || low == high)
			}
		}
	}
}

// TestWhatMayBeOneAmongMany: the one k, or m, that does not let them be one stands at each place.
func TestWhatMayBeOneAmongMany(t *testing.T) {
	const n = 12
	for _, k := range fours() {
		for bad := range n {
			z := sided(slices.Concat([]api.Side{down, up}, slices.Repeat([]api.Side{both}, n))...)
			row := slices.Repeat([]bool{true}, n+2)
			row[0] = false
			z.High[0], z.Below[0] = 3, row
			for i := range n {
				z.Low[i+2], z.High[i+2], z.Below[i+2] = 3, 0, row
			}
			k.isPair(t, "as they are", z, true)
			k.isPair(t, "another Low of u", change(z, func(z *api.Sense) { z.Low[1] = 1 }), true)
			k.isPair(t, "a Low", change(z, func(z *api.Sense) { z.Low[1] = 1; z.Low[bad+2] = 2 }), false)
			k.isPair(t, "another High of d", change(z, func(z *api.Sense) { z.High[0] = 2 }), true)
			k.isPair(t, "a High", change(z, func(z *api.Sense) { z.High[0] = 2; z.High[bad+2] = 1 }), false)
			for other := range n {
				k.isPair(t, "a place", change(z, func(z *api.Sense) { z.Below[bad+2][other+2] = false }), false)
			}
			k.isPair(t, "one that need not be Below", change(z, func(z *api.Sense) { z.Below[bad+2] = make([]bool, n+2) }), true)
		}
	}
}

// isPair holds whether the first two spots are one.
func (k sort) isPair(t *testing.T, name string, z api.Sense, is bool) {
	t.Helper()
	if l, vars, _ := k.is(t, name, z, nil); (l[0] == l[1]) != is {
		t.Fatalf("%s, %s: %v: %s", k.name, name, z, list(l, vars))
	}
}

// TestPairsInOrder: those of several classes, whose first spots stand in any order; one class of each side finds none.
func TestPairsInOrder(t *testing.T) {
	for _, k := range fours() {
		// Spots 0, 1, 2 go down, 3, 4, 5 up: 0 and 3, 1 and 4 are pairs; 2 is Below all that go up, of which none may be one with it, and so all are Below 5.
		z := sense(at(down, 0, 3, 3, 5), at(down, 0, 2, 4, 5), at(down, 0, 2, 3, 4, 5), at(up, 0, 0), at(up, 0, 0), at(up, 0, 0))
		k.told(t, "pairs", z, "V0 V1 V2 V0 V1 V3; 4", "V0<V3 V1<2 V1<V3 V2<2 V2<V0 V2<V1")
		k.told(t, "pairs, turned", moved(z, []int{5, 4, 3, 2, 1, 0}), "V0 V1 V2 V3 V1 V2; 4", "V1<2 V1<V0 V2<V0 V3<2 V3<V1 V3<V2")
		for _, order := range orders(6) {
			l, vars, _ := k.is(t, "in all orders", moved(z, order), nil)
			// Each variable's number is how many others have a spot ahead of its first one.
			next := uint64(0)
			for _, term := range l {
				if !term.Var || term.N > next {
					t.Fatalf("%v: %s", order, list(l, vars))
				}
				next = max(next, term.N+1)
			}
			if vars != 4 || next != 4 {
				t.Fatalf("%v: %s", order, list(l, vars))
			}
		}
		// What goes down first takes the first one that it may be one with; of two that are alike there is one class.
		k.told(t, "alike on both sides", sense(at(down, 0, 3, 2, 3), at(down, 1, 3, 2, 3), at(up, 0, 0), at(up, 0, 1)), "V0 V0 V0 V0; 1", "")
		// One that is Below the other's u alone is none's, and no other one is u's.
		k.told(t, "in a pair already", sense(at(down, 0, 1, 2), at(down, 0, 3, 2), at(up, 0, 0)), "V0 V1 V1; 2", "V0<1 V0<V1")
		k.told(t, "two that go up", sense(at(down, 0, 3, 1, 2), at(up, 1, 0), at(up, 0, 0)), "V0 V1 V0; 2", "V0<V1 1<V1")
		// What is one with a class that goes both is no other one's.
		k.told(t, "with one that goes both", sense(at(up, 0, 0), at(down, 0, 3, 0, 2), at(both, 0, 3, 0, 2)), "V0 V0 V0; 1", "")
		k.told(t, "one alone with one that goes both", sense(at(up, 0, 0), at(both, 0, 3, 1), at(down, 0, 3, 0)), "V0 V1 V0; 2", "")
	}
}

// TestTheFirstSpotNumbers: a variable's first spot may be of any of its classes, and any spot ahead of others may be fixed.
func TestTheFirstSpotNumbers(t *testing.T) {
	for _, k := range fours() {
		z := tied()
		for _, order := range orders(5) {
			l, vars, _ := k.is(t, "in all orders", moved(z, order), nil)
			want, number, next := "", map[int]string{}, 0
			for _, from := range order {
				variable := map[int]int{0: 0, 1: 1, 2: 1, 3: 1, 4: 2}[from]
				if number[variable] == "" {
					number[variable] = "V" + strconv.Itoa(next) + " "
					next++
				}
				want += number[variable]
			}
			if got := list(l, vars); got != want[:len(want)-1]+"; 3" {
				t.Fatalf("%v: %s, want %s", order, got, want)
			}
		}
		k.told(t, "fixed ones ahead", sense(at(up, 2, 0), at(both, 0, 3, 1), at(both, 1, 1, 2), at(both, 0, 3, 3), at(down, 0, 3), at(both, 0, 3, 1)), "2 V0 1 V1 3 V2; 3", "V2<V0")
	}
	k := chain("64 labels", 64)
	for n := range 80 {
		z := sided(slices.Repeat([]api.Side{both}, n)...)
		for i := range n {
			z.High[i], z.Below[i][i] = 63, true
		}
		l, vars, b := k.is(t, "as many variables as spots", z, nil)
		if vars != n || len(b) != 0 || n > 0 && l[n-1] != v(uint64(n-1)) {
			t.Fatalf("%d: %s", n, list(l, vars))
		}
		for i := range n {
			z.High[i] = 0
		}
		l, vars, b = k.is(t, "none at all", z, nil)
		if vars != 0 || len(b) != 0 || !slices.Equal(l, make([]api.Term, n)) {
			t.Fatalf("%d: %s", n, list(l, vars))
		}
	}
}

// TestPairsOfSortsWithoutValues: nothing is below anything there, so there are no pairs; but classes that have one end are one.
func TestPairsOfSortsWithoutValues(t *testing.T) {
	for _, k := range nothing() {
		k.told(t, "no pair", sense(at(down, 0, 0, 1), at(up, 0, 0)), "V0 V1; 2", "V0<V1")
		k.told(t, "no pair, of other ends", sense(at(down, 0, 3, 1), at(up, 2, 0)), "V0 V1; 2", "V0<3 V0<V1 2<V1")
		k.told(t, "with one that goes both", sense(at(down, 0, 3, 1, 2), at(both, 1, 3, 1, 2), at(up, 1, 0)), "V0 V0 V0; 1", "1<V0 V0<3")
		k.told(t, "all fixed", sense(at(down, 0, 3), at(both, 5, 5), at(up, 7, 0)), "3 5 7; 0", "")
	}
}

// TestValuesThatThereAreNot: they are below nothing, themselves neither, so a class of them is in no pair; a Low or High that is one is told as it is.
func TestValuesThatThereAreNot(t *testing.T) {
	for _, k := range sorts() {
		for _, value := range k.other {
			if value == 0 { // of a sort without values that is its bottom, and its top
				continue
			}
			text := strconv.FormatUint(value, 10)
			k.told(t, "one that goes both", sense(at(both, value, 98, 0)), "V0; 1", text+"<V0 V0<98")
			k.told(t, "no pair", sense(at(down, 0, value, 1), at(up, value, 0)), "V0 V1; 2", "V0<"+text+" V0<V1 "+text+"<V1")
		}
	}
}

// faults: ways in which a sense is none of which rows tell something.
func faults() map[string]func(z *api.Sense) {
	all := map[string]func(z *api.Sense){
		"no Low":        func(z *api.Sense) { z.Low = nil },
		"too few Lows":  func(z *api.Sense) { z.Low = z.Low[1:] },
		"too many Lows": func(z *api.Sense) { z.Low = append(z.Low, 0) },
		"no High":       func(z *api.Sense) { z.High = nil },
		"too few Highs": func(z *api.Sense) { z.High = z.High[1:] },
		"more Highs":    func(z *api.Sense) { z.High = append(z.High, 0) },
		"no Below":      func(z *api.Sense) { z.Below = nil },
		"too few rows":  func(z *api.Sense) { z.Below = z.Below[1:] },
		"too many rows": func(z *api.Sense) { z.Below = append(z.Below, make([]bool, len(z.Spots))) },
		"no spots":      func(z *api.Sense) { z.Spots = nil },
		"too few spots": func(z *api.Sense) { z.Spots = z.Spots[1:] },
		"more spots":    func(z *api.Sense) { z.Spots = append(z.Spots, api.Spot{}) },
	}
	for i := range 5 {
		all["no row "+strconv.Itoa(i)] = func(z *api.Sense) { z.Below[i] = nil }
		all["a short row "+strconv.Itoa(i)] = func(z *api.Sense) { z.Below[i] = z.Below[i][1:] }
		all["a long row "+strconv.Itoa(i)] = func(z *api.Sense) { z.Below[i] = append(z.Below[i], true) }
		for _, side := range []api.Side{3, 4, 128, 255} {
			all["spot "+strconv.Itoa(i)+" of side "+strconv.Itoa(int(side))] = func(z *api.Sense) { z.Spots[i].Side = side }
		}
	}
	return all
}

// TestWhatIsNoSense: of what rows tell nothing nothing is told, whatever terms are handed in.
func TestWhatIsNoSense(t *testing.T) {
	for _, k := range sorts() {
		for name, with := range faults() {
			z := change(tied(), with)
			l, vars, _ := k.want(tied(), nil)
			k.nothing(t, name, z)
			if b := pairs.Bounds(k.s, z, l, vars); len(b) != 0 {
				t.Fatalf("%s, %s: %s", k.name, name, chains(b))
			}
		}
		for _, z := range []api.Sense{
			{}, {Spots: []api.Spot{}, Low: []uint64{}, High: []uint64{}, Below: [][]bool{}}, {Low: []uint64{0}}, {High: []uint64{0}}, {Below: [][]bool{nil}}, {Below: [][]bool{{true}}},
		} {
			k.nothing(t, "no spots", z)
		}
	}
}

// P15.2

// ends: what is told of the ends of a variable that has both.
func ends(variable string, low, high uint64) string {
	var words []string
	if low != 0 {
		words = append(words, name(c(low))+"<"+variable)
	}
	if high != 3 {
		words = append(words, variable+"<"+name(c(high)))
	}
	return strings.Join(words, " ")
}

// TestEndsOfVariables: told if there are any, and they are not the sort's own.
func TestEndsOfVariables(t *testing.T) {
	for _, k := range fours() {
		for low := range uint64(5) {
			for high := range uint64(5) {
				if low == high {
					continue
				}
				k.told(t, "one that goes both", sense(at(both, low, high, 0)), "V0; 1", ends("V0", low, high))
				if !k.below(high, low) {
					k.told(t, "of all sides", sense(at(up, low, 9), at(down, 9, high, 0, 2), at(both, low, high, 0, 2)), "V0 V0 V0; 1", ends("V0", low, high))
					k.told(t, "one that goes both, and up", sense(at(up, low, 9), at(both, low, high, 0, 1)), "V0 V0; 1", ends("V0", low, high))
					k.told(t, "one that goes both, and down", sense(at(both, low, high, 0), at(down, 9, high, 0)), "V0 V0; 1", ends("V0", low, high))
				}
				if k.below(low, high) {
					k.told(t, "a pair", sense(at(down, 9, high, 1), at(up, low, 9)), "V0 V0; 1", ends("V0", low, high))
				} else if !k.below(high, low) {
					two := strings.Fields(ends("V0", 0, high) + " V0<V1 " + ends("V1", low, 3))
					k.told(t, "one that goes down, one that goes up", sense(at(down, 9, high, 1), at(up, low, 9)), "V0 V1; 2", strings.Join(two, " "))
				}
			}
		}
		// d goes down, is Below u and v, and one with none of them: each is Below another one that is not.
		z := sense(at(down, 1, 3, 3, 4), at(down, 0, 3, 3), at(down, 0, 3, 4), at(up, 0, 0), at(up, 0, 0))
		k.told(t, "a High that is the top, no Low", z, "V0 V1 V2 V1 V2; 3", "V0<V1 V0<V2")
		z.High[0] = 1
		k.told(t, "a High that is not, no Low", z, "V0 V1 V2 V1 V2; 3", "V0<1 V0<V1 V0<V2")
		z = sense(at(up, 0, 1), at(down, 0, 3, 0, 3), at(down, 0, 3, 0, 4), at(up, 0, 0), at(up, 0, 0))
		k.told(t, "a Low that is the bottom, no High", z, "V0 V1 V2 V1 V2; 3", "V1<V0 V2<V0")
		z.Low[0] = 2
		k.told(t, "a Low that is not, no High", z, "V0 V1 V2 V1 V2; 3", "2<V0 V1<V0 V2<V0")
	}
}

// TestEndsOfEachSort: bottom and top of each sort are no news, all other values are; of sorts without values both are 0.
func TestEndsOfEachSort(t *testing.T) {
	for _, k := range sorts() {
		all := slices.Concat(k.few, k.other, []uint64{k.bottom, k.top})
		for _, low := range all {
			for _, high := range all {
				if low == high {
					continue
				}
				var words []string
				if low != k.bottom {
					words = append(words, name(c(low))+"<V0")
				}
				if high != k.top {
					words = append(words, "V0<"+name(c(high)))
				}
				k.told(t, "ends", sense(at(both, low, high, 0)), "V0; 1", strings.Join(words, " "))
			}
		}
	}
}

// TestUnder: one variable that goes both under another one, and not for each thing alone.
func TestUnder(t *testing.T) {
	for _, k := range fours() {
		k.told(t, "under", sense(at(both, 0, 3, 0, 1), at(both, 0, 3, 1)), "V0 V1; 2", "V0<V1")
		k.told(t, "the other way", sense(at(both, 0, 3, 0), at(both, 0, 3, 0, 1)), "V0 V1; 2", "V1<V0")
		k.told(t, "not Below", sense(at(both, 0, 3, 0), at(both, 0, 3, 1)), "V0 V1; 2", "")
		k.told(t, "each under the other one", sense(at(both, 0, 3, 0, 1), at(both, 1, 3, 0, 1)), "V0 V1; 2", "V0<V1 1<V1 V1<V0")
		for high := range uint64(5) {
			for low := range uint64(5) {
				// The other ends are none of the values, so nothing is fixed.
				words := []string{"7<V0", ends("V0", 0, high), "V0<V1", ends("V1", low, 3), "V1<8"}
				if k.below(high, low) {
					words[2] = ""
				}
				k.told(t, "High and Low", sense(at(both, 7, high, 0, 1), at(both, low, 8, 1)), "V0 V1; 2", strings.Join(strings.Fields(strings.Join(words, " ")), " "))
			}
		}
		k.told(t, "the first one goes up alone", sense(at(up, 1, 0, 1), at(up, 0, 0), at(both, 0, 3, 0, 1, 2)), "V0 V1 V2; 3", "1<V0 V2<V0 V2<V1")
		k.told(t, "the second one goes down alone", sense(at(both, 0, 3, 0, 1), at(down, 0, 2, 0)), "V0 V1; 2", "V1<2 V1<V0")
		k.told(t, "all Below the other one", sense(at(down, 9, 3, 1, 2), at(both, 0, 3, 1, 2), at(up, 0, 9), at(down, 9, 2, 4), at(up, 1, 9)), "V0 V0 V0 V1 V2; 3", "V1<2 V1<V2 1<V2")
		// A variable is not under itself, whatever its own ends are.
		k.told(t, "itself", sense(at(both, 1, 2, 0)), "V0; 1", "1<V0 V0<2")
	}
}

// TestUnderByEachClass: of either variable the class that is Below, or that others are Below, is of any of the kinds.
func TestUnderByEachClass(t *testing.T) {
	k := diamond()
	// Spots 0 to 2 are one variable, or 3 to 5 the other one: of three classes, of one that goes both, of a pair.
	first := [][]spot{
		{at(both, 0, 3, 0, 1, 2, 3, 4, 5), at(down, 9, 3, 0, 1, 2, 3, 4, 5), at(up, 0, 9)},
		{at(both, 0, 3, 0, 1, 2, 3, 4, 5), at(both, 0, 3, 0, 1, 2, 3, 4, 5), at(both, 0, 3, 0, 1, 2, 3, 4, 5)},
		{at(down, 9, 3, 1, 2, 3, 4, 5), at(up, 0, 9), at(up, 0, 9)},
	}
	second := [][]spot{
		{at(both, 0, 3, 3, 4, 5), at(down, 9, 3, 3, 4, 5), at(up, 0, 9)},
		{at(both, 0, 3, 3, 4, 5), at(both, 0, 3, 3, 4, 5), at(both, 0, 3, 3, 4, 5)},
		{at(down, 9, 3, 4, 5), at(up, 0, 9), at(up, 0, 9)},
	}
	for _, a := range first {
		for _, b := range second {
			z := sense(slices.Concat(a, b)...)
			for i := range z.Spots { // what goes up is Below none, and none Below what goes down
				for j := range z.Spots {
					z.Below[i][j] = z.Below[i][j] && z.Spots[i].Side != up && z.Spots[j].Side != down
				}
			}
			k.told(t, "each class", z, "V0 V0 V0 V1 V1 V1; 2", "V0<V1")
			k.told(t, "each class, turned", moved(z, []int{5, 4, 3, 2, 1, 0}), "V0 V0 V0 V1 V1 V1; 2", "V1<V0")
		}
	}
}

// TestNoThirdOneBetween: what follows by a third one is not told, in any order of the spots; what only seems to is.
func TestNoThirdOneBetween(t *testing.T) {
	// Each row of a case: whom that spot is Below, itself too.
	cases := []struct {
		name string
		rows [][]int
		want [][2]int
	}{
		{"a chain of three", [][]int{{0, 1, 2}, {1, 2}, {2}}, [][2]int{{0, 1}, {1, 2}}},
		{"two above one", [][]int{{0, 1, 2}, {1}, {2}}, [][2]int{{0, 1}, {0, 2}}},
		{"two below one", [][]int{{0, 2}, {1, 2}, {2}}, [][2]int{{0, 2}, {1, 2}}},
		{"the first to the third alone not Below", [][]int{{0, 1}, {1, 2}, {2}}, [][2]int{{0, 1}, {1, 2}}},
		{"a chain of four", [][]int{{0, 1, 2, 3}, {1, 2, 3}, {2, 3}, {3}}, [][2]int{{0, 1}, {1, 2}, {2, 3}}},
		{"two between", [][]int{{0, 1, 2, 3}, {1, 3}, {2, 3}, {3}}, [][2]int{{0, 1}, {0, 2}, {1, 3}, {2, 3}}},
		{"one between, and one beside", [][]int{{0, 1, 2, 3}, {1, 3}, {2}, {3}}, [][2]int{{0, 1}, {0, 2}, {1, 3}}},
		{"four in a ring of two sides", [][]int{{0, 2, 3}, {1, 2, 3}, {2}, {3}}, [][2]int{{0, 2}, {0, 3}, {1, 2}, {1, 3}}},
		{"by two alone", [][]int{{0, 1, 3}, {1, 2}, {2, 3}, {3}}, [][2]int{{0, 1}, {0, 3}, {1, 2}, {2, 3}}},
	}
	for _, k := range fours() {
		for _, one := range cases {
			var spots []spot
			for _, row := range one.rows {
				spots = append(spots, at(both, 0, 3, row...))
			}
			for _, order := range orders(len(spots)) {
				var want []api.Bound
				for _, two := range one.want {
					want = append(want, api.Bound{A: v(uint64(slices.Index(order, two[0]))), B: v(uint64(slices.Index(order, two[1])))})
				}
				slices.SortFunc(want, func(a, b api.Bound) int { return cmp.Or(cmp.Compare(a.A.N, b.A.N), cmp.Compare(a.B.N, b.B.N)) })
				if _, _, b := k.is(t, one.name, moved(sense(spots...), order), nil); !slices.Equal(b, want) {
					t.Fatalf("%s, %s: %s, want %s", k.name, one.name, chains(b), chains(want))
				}
			}
		}
		// One that is Below it, but not under it, is not between.
		k.told(t, "by a Low", sense(at(both, 0, 1, 0, 1, 2), at(both, 1, 3, 1, 2), at(both, 0, 3, 2)), "V0 V1 V2; 3", "V0<1 V0<V2 1<V1 V1<V2")
		k.told(t, "by a High", sense(at(both, 0, 3, 0, 1, 2), at(both, 0, 2, 1, 2), at(both, 2, 3, 2)), "V0 V1 V2; 3", "V0<V1 V0<V2 V1<2 2<V2")
		// One that goes down alone, or up alone, is between none.
		k.told(t, "between, but down", sense(at(both, 0, 3, 0, 1, 2), at(down, 9, 1, 2), at(both, 2, 3, 2)), "V0 V1 V2; 3", "V0<V2 V1<1 V1<V2 2<V2")
		k.told(t, "between, but up", sense(at(both, 0, 3, 0, 1, 2), at(up, 1, 9, 2), at(both, 0, 3, 2)), "V0 V1 V2; 3", "V0<V1 V0<V2 1<V1")
	}
}

// TestBoundsInOrder: of each variable, rising, its Low, its High, and those above it, rising; of more than ten of them too.
func TestBoundsInOrder(t *testing.T) {
	for _, k := range fours() {
		z := sense(at(both, 0, 3, 0), at(both, 1, 2, 0, 1, 2, 3, 4), at(both, 0, 3, 2), at(both, 2, 3, 3), at(both, 0, 1, 4))
		k.told(t, "those above", z, "V0 V1 V2 V3 V4; 5", "1<V1 V1<2 V1<V0 V1<V2 V1<V4 2<V3 V4<1")
		k.told(t, "all that may be said", moved(z, []int{1, 0, 4, 3, 2}), "V0 V1 V2 V3 V4; 5", "1<V0 V0<2 V0<V1 V0<V2 V0<V4 V2<1 2<V3")
		many := sided(slices.Repeat([]api.Side{both}, 13)...)
		for i := range 13 {
			many.High[i], many.Below[i][i] = 3, true
		}
		for i := range 12 {
			many.Below[5][i], many.Below[i][12] = true, true
		}
		k.told(t, "many above, many below", many, "V0 V1 V2 V3 V4 V5 V6 V7 V8 V9 V10 V11 V12; 13", "V0<V12 V1<V12 V2<V12 V3<V12 V4<V12 V5<V0 V5<V1 V5<V2 V5<V3 V5<V4 V5<V6 V5<V7 V5<V8 V5<V9 V5<V10 V5<V11 V6<V12 V7<V12 V8<V12 V9<V12 V10<V12 V11<V12")
	}
}

// TestTermsThatAreOthers: of terms, or a number of variables, that are not what Of tells, nothing is told.
func TestTermsThatAreOthers(t *testing.T) {
	for _, k := range sorts() {
		for _, z := range []api.Sense{tied(), knot(), sense(at(both, 1, 2, 0), at(both, 1, 1, 1), at(both, 2, 1, 2)), sense(at(both, 0, 0, 0)), {}} {
			l, vars, b := k.is(t, "what Of tells", z, nil)
			if len(z.Spots) > 1 && len(b) == 0 {
				t.Fatalf("%s: %v: nothing is told", k.name, z)
			}
			none := func(name string, l []api.Term, vars int) {
				t.Helper()
				if told := pairs.Bounds(k.s, z, l, vars); len(told) != 0 {
					t.Fatalf("%s, %s: Bounds(%v, %s): %s", k.name, name, z, list(l, vars), chains(told))
				}
			}
			for _, other := range []int{vars + 1, vars - 1, -1, -vars, vars + 64, 1 << 32, math.MaxInt, math.MinInt} {
				if other != vars {
					none("another number", l, other)
				}
			}
			none("one more", append(slices.Clone(l), v(0)), vars)
			none("one more, new", append(slices.Clone(l), v(uint64(vars))), vars+1)
			none("twice as many", slices.Repeat(append(slices.Clone(l), c(0)), 2), vars)
			for i, term := range l {
				put := func(name string, as api.Term) {
					t.Helper()
					if as != term {
						with := slices.Clone(l)
						with[i] = as
						none(name, with, vars)
					}
				}
				put("another kind", api.Term{Var: !term.Var, N: term.N})
				for _, n := range []uint64{0, 1, 2, 3, 4, 5, term.N + 1, term.N - 1, uint64(vars), 1 << 32, 1 << 63, math.MaxUint64} {
					put("another number", api.Term{Var: term.Var, N: n})
				}
				none("one less", slices.Delete(slices.Clone(l), i, i+1), vars)
			}
			if len(l) > 0 {
				none("none", nil, vars)
				none("none, and no variables", nil, 0)
			}
		}
		// The same variables, otherwise numbered, are not what Of tells.
		z := sense(at(both, 1, 2, 0), at(both, 2, 1, 1))
		k.toldOf(t, "as numbered", z, "V0 V1; 2")
		if b := pairs.Bounds(k.s, z, []api.Term{v(1), v(0)}, 2); len(b) != 0 {
			t.Fatalf("%s: otherwise numbered: %s", k.name, chains(b))
		}
	}
}

// Both.

// all: all lists of so many of those.
func all(n int, of []uint64) [][]uint64 {
	if n == 0 {
		return [][]uint64{nil}
	}
	var lists [][]uint64
	for _, list := range all(n-1, of) {
		for _, one := range of {
			lists = append(lists, append(slices.Clone(list), one))
		}
	}
	return lists
}

// TestFewSpots: all senses of up to two spots, whose ends are of few values.
func TestFewSpots(t *testing.T) {
	for _, k := range append(fours(), nothing()[0], chain("two labels", 2), sets("one effect", 1)) {
		few := append(slices.Clone(k.few[:min(3, len(k.few))]), 3)
		if len(k.few) < 3 {
			few = []uint64{0, 1}
		}
		for n := range 3 {
			for _, sides := range all(n, []uint64{0, 1, 2}) {
				z := sided(make([]api.Side, n)...)
				for i, side := range sides {
					z.Spots[i].Side = api.Side(side)
				}
				for _, ends := range all(2*n, few) {
					copy(z.Low, ends[:n])
					copy(z.High, ends[n:])
					for below := range 1 << (n * n) {
						for i := range n * n {
							z.Below[i/n][i%n] = below>>i&1 == 1
						}
						k.is(t, "few spots", z, nil)
					}
				}
			}
		}
	}
}

// kinds: what random senses have to show.
func kinds() []string {
	return []string{"down, with one that goes both", "up, with one that goes both", "a pair", "down, alone", "up, alone", "a Low", "a High", "under", "under, by a third one"}
}

// seen holds that there was enough of each kind.
func seen(t *testing.T, counts map[string]int, least int) {
	t.Helper()
	for _, kind := range kinds() {
		if counts[kind] < least {
			t.Errorf("%s: %d", kind, counts[kind])
		}
	}
}

func TestAnySenses(t *testing.T) {
	counts, whatever := map[string]int{}, 0
	s := source(8)
	k := sorts()
	for range 40000 {
		k := k[s.below(len(k))]
		if z := s.anySense(k, s.below(8)); whole(z) {
			k.is(t, "any", z, counts)
		} else {
			whatever++
			k.nothing(t, "not whole", z)
		}
	}
	seen(t, counts, 200)
	if whatever < 500 {
		t.Errorf("%d senses that are not whole", whatever)
	}
}

func TestAnyLongSenses(t *testing.T) {
	s := source(9)
	k := sorts()
	for range 60 {
		k := k[s.below(len(k))]
		k.is(t, "a long one", s.anySense(k, 40+s.below(60)), nil)
	}
}

// some: the sorts that have values.
func some() (l []sort) {
	for _, k := range sorts() {
		if len(k.few) > 0 {
			l = append(l, k)
		}
	}
	return l
}

// TestNearlySensesOfSchemes: such as a scheme has, but for a few things.
func TestNearlySensesOfSchemes(t *testing.T) {
	counts := map[string]int{}
	s := source(10)
	k := some()
	for range 30000 {
		k := k[s.below(len(k))]
		k.is(t, "nearly", s.nearly(k), counts)
	}
	seen(t, counts, 500)
}

// P15.3

// again: the scheme that has that one's body with the terms and bounds that are told of it; it holds both against what they are to tell, and counts.
func again(t *testing.T, of api.Scheme, l, x sort, says, does api.Sense, ofLabels, ofEffects map[string]int) (with api.Scheme) {
	t.Helper()
	terms, vars, bounds := l.is(t, "labels", says, ofLabels)
	acts, actVars, actBounds := x.is(t, "effects", does, ofEffects)
	if vars > of.LVars || actVars > of.EVars {
		t.Fatalf("%s, %s: %v: %d and %d variables", l.name, x.name, of, vars, actVars)
	}
	with = api.Scheme{LVars: vars, EVars: actVars, L: bounds, E: actBounds}
	body, e := spots.Put(of.Body, terms, acts)
	if e != api.OK {
		t.Fatal(e)
	}
	with.Body = body
	return with
}

// sameBut: whether two senses are one but for the terms that stand there.
func sameBut(a, b api.Sense) bool {
	a, b = like(a), like(b)
	for _, z := range []api.Sense{a, b} {
		for i := range z.Spots {
			z.Spots[i].T = api.Term{}
		}
	}
	return equal(a, b)
}

// follows holds that the scheme of what is told has the same sense, and that the same is told of that again.
func follows(t *testing.T, of api.Scheme, l, x sort, ofLabels, ofEffects map[string]int) bool {
	t.Helper()
	says, does, e := senses.Of(of, l.s, x.s)
	if e != api.OK {
		return false
	}
	with := again(t, of, l, x, says, does, ofLabels, ofEffects)
	nowSays, nowDoes, e := senses.Of(with, l.s, x.s)
	if e != api.OK || !sameBut(says, nowSays) || !sameBut(does, nowDoes) {
		t.Fatalf("%s, %s: %v and %v: %v:\n%v %v, was\n%v %v", l.name, x.name, of, with, e, nowSays, nowDoes, says, does)
	}
	twice := again(t, with, l, x, nowSays, nowDoes, map[string]int{}, map[string]int{})
	if twice.LVars != with.LVars || twice.EVars != with.EVars || !slices.Equal(twice.L, with.L) || !slices.Equal(twice.E, with.E) || !slices.Equal(twice.Body, with.Body) {
		t.Fatalf("%s, %s: %v, told of again: %v", l.name, x.name, with, twice)
	}
	return true
}

// TestSensesOfSchemes: of both sorts, whatever sort is one of labels, or of effects.
func TestSensesOfSchemes(t *testing.T) {
	ofLabels, ofEffects := map[string]int{}, map[string]int{}
	s := source(21)
	k, done := some(), 0
	for range 60000 {
		l, x := k[s.below(len(k))], k[s.below(len(k))]
		if follows(t, s.scheme(l, x), l, x, ofLabels, ofEffects) {
			done++
		}
	}
	if done < 5000 {
		t.Errorf("%d schemes", done)
	}
	seen(t, ofLabels, 200)
	seen(t, ofEffects, 20)
}

// TestAllBoundsOfFewVariables: all bounds between three variables, and some with constants, of bodies whose labels go up, down and both.
func TestAllBoundsOfFewVariables(t *testing.T) {
	counts, none := map[string]int{}, map[string]int{}
	l, x := chain("two labels", 2), sets("no effects", 0)
	bodies := [][]api.Node{
		aFun(v(0), v(1), v(2)), aFun(v(1), v(1), v(0)), aFun(v(2), v(0), v(1)),
		append([]api.Node{{Kind: api.KdTuple, Kids: 2, L: v(2)}, {Kind: api.KdRef, Kids: 1, L: v(0)}, {Kind: api.KdBase, Name: "int", L: v(1)}}, aFun(v(0), v(1), v(2))...),
		append(aFun(v(1), v(2), v(0))[:1], append(aFun(v(2), v(0), v(1)), aFun(v(1), v(1), v(2))...)...),
	}
	for _, body := range bodies {
		body = slices.Clone(body)
		for i := range body {
			if body[i].Kind == api.KdFun {
				body[i].PC = v(uint64(i % 3))
			}
		}
		var between, ends []api.Bound
		for i := range uint64(3) {
			for j := range uint64(3) {
				if i != j {
					between = append(between, api.Bound{A: v(i), B: v(j)})
				}
			}
			ends = append(ends, api.Bound{A: c(1), B: v(i)}, api.Bound{A: v(i), B: c(0)})
		}
		for ways := range 1 << len(between) {
			for more := range 1 << len(ends) {
				k := api.Scheme{LVars: 3, Body: body}
				for i, bound := range between {
					if ways>>i&1 == 1 {
						k.L = append(k.L, bound)
					}
				}
				for i, bound := range ends {
					if more>>i&1 == 1 {
						k.L = append(k.L, bound)
					}
				}
				follows(t, k, l, x, counts, none)
			}
		}
	}
	for _, kind := range []string{"down, with one that goes both", "up, with one that goes both", "a pair", "under"} {
		if counts[kind] < 50 {
			t.Errorf("%s: %d", kind, counts[kind])
		}
	}
}

// TestAllBoundsFromThreeToThree: a function of three arguments and three results, each of a variable of its own, and all bounds of arguments below results, some with constants.
func TestAllBoundsFromThreeToThree(t *testing.T) {
	counts, none := map[string]int{}, map[string]int{}
	l, x := diamond(), sets("no effects", 0)
	body := []api.Node{{Kind: api.KdFun, Kids: 2}}
	for side := range uint64(2) {
		body = append(body, api.Node{Kind: api.KdTuple, Kids: 3})
		for i := range uint64(3) {
			body = append(body, api.Node{Kind: api.KdBase, Name: "int", L: v(3*side + i)})
		}
	}
	ends := []api.Bound{{A: v(0), B: c(1)}, {A: v(1), B: c(2)}, {A: c(1), B: v(3)}, {A: c(2), B: v(4)}, {A: v(3), B: c(1)}, {A: c(2), B: v(2)}}
	for ways := range 1 << 9 {
		for more := range 1 << len(ends) {
			k := api.Scheme{LVars: 6, Body: body}
			for i := range 9 {
				if ways>>i&1 == 1 {
					k.L = append(k.L, api.Bound{A: v(uint64(i / 3)), B: v(uint64(3 + i%3))})
				}
			}
			for i, bound := range ends {
				if more>>i&1 == 1 {
					k.L = append(k.L, bound)
				}
			}
			follows(t, k, l, x, counts, none)
		}
	}
	for _, kind := range []string{"a pair", "down, alone", "up, alone", "a Low", "a High", "under"} {
		if counts[kind] < 500 {
			t.Errorf("%s: %d", kind, counts[kind])
		}
	}
}

// TestAsManySpotsAsMayBe: a body of 63 functions and a ref or a tuple, with up to 64 variables of each sort.
func TestAsManySpotsAsMayBe(t *testing.T) {
	body := []api.Node{{Kind: api.KdBase, Name: "int"}}
	for range 6 {
		body = slices.Concat([]api.Node{{Kind: api.KdFun, Kids: 2}}, body, body)
	}
	body = append([]api.Node{{Kind: api.KdTuple, Kids: 1}}, body...)
	l, x := chain("64 labels", 64), sets("64 effects", 64)
	labels, effects := spots.Of(body)
	s := source(40)
	for _, vars := range []int{1, 7, 64} {
		for _, kind := range []api.Kind{api.KdTuple, api.KdRef} { // all go up or down, then all both
			for _, ways := range []int{0, vars - 1, 2 * vars, 3 * vars} {
				body[0].Kind = kind
				var terms []api.Term
				for i := range len(labels) {
					terms = append(terms, v(uint64(i*31%vars)))
				}
				k := api.Scheme{LVars: vars, EVars: vars}
				k.Body, _ = spots.Put(body, terms, terms[:len(effects)])
				for i := range ways {
					from, to := uint64(i%vars), uint64((i+1)%vars)
					if ways != vars-1 { // else a chain
						from, to = uint64(s.below(vars)), uint64(s.below(vars))
						from, to = min(from, to), max(from, to)
					}
					k.L, k.E = append(k.L, api.Bound{A: v(from), B: v(to)}), append(k.E, api.Bound{A: v(from), B: v(to)})
				}
				if !follows(t, k, l, x, map[string]int{}, map[string]int{}) {
					t.Fatalf("%d variables", vars)
				}
			}
		}
	}
}

// R1

// TestEveryCallEnds: at great lists, of rows that are not there, or too long, and of as many spots as never stand in a body.
func TestEveryCallEnds(t *testing.T) {
	const most, n = 300000, 400
	great := api.Sense{Spots: make([]api.Spot, most), Low: make([]uint64, most), High: make([]uint64, most), Below: make([][]bool, most)}
	slack := sided(up)
	slack.Below[0] = make([]bool, most)
	lone := sided(up)
	lone.Spots = great.Spots
	terms := make([]api.Term, most)
	// Half of many go down, half up, all Below all of these, each row another one by one place; and many that go both.
	many, boths := sided(slices.Concat(slices.Repeat([]api.Side{down}, n/2), slices.Repeat([]api.Side{up}, n/2))...), sided(slices.Repeat([]api.Side{both}, n)...)
	for i := range n {
		many.Low[i], many.High[i] = 0, 1
		for j := range n {
			many.Below[i][j] = i < n/2 && j >= n/2 && j-n/2 != i
			boths.Below[i][j] = i <= j
		}
		boths.High[i] = 1
	}
	for _, k := range sorts() {
		for _, z := range []api.Sense{great, slack, lone, {Low: great.Low}, {High: great.High}, {Below: great.Below}, {Spots: great.Spots}} {
			l, vars := pairs.Of(k.s, z)
			if b := pairs.Bounds(k.s, z, terms, most); len(l) != 0 || vars != 0 || len(b) != 0 {
				t.Errorf("%s: great lists: %d, %d, %d", k.name, len(l), vars, len(b))
			}
		}
		if b := pairs.Bounds(k.s, tied(), terms, 3); len(b) != 0 {
			t.Errorf("%s: many terms: %d", k.name, len(b))
		}
		for _, z := range []api.Sense{many, boths} {
			l, vars := pairs.Of(k.s, z)
			b := pairs.Bounds(k.s, z, l, vars)
			if len(l) != n || vars > n || len(b) == 0 && vars > 1 {
				t.Errorf("%s: many spots: %d, %d, %d", k.name, len(l), vars, len(b))
			}
		}
	}
	k := chain("two labels", 2)
	if l, vars := pairs.Of(k.s, boths); vars != n || len(pairs.Bounds(k.s, boths, l, vars)) != n-1 {
		t.Errorf("many that go both: %d", vars)
	}
	if l, vars := pairs.Of(k.s, many); vars != n || len(pairs.Bounds(k.s, many, l, vars)) != n/2*(n/2-1) {
		t.Errorf("many that go down, and up: %d", vars)
	}
}

// R4

// roomy: a list with spare room behind it, as whole (l and its room) and as l.
func roomy[T any](l []T, room int, spare T) (whole, part []T) {
	whole = slices.Clip(slices.Concat(l, slices.Repeat([]T{spare}, room)))
	return whole, whole[:len(l)]
}

// spacious: a sense all of whose lists have spare room, as whole and as the sense.
func spacious(z api.Sense, room int) (whole, part api.Sense) {
	whole.Spots, part.Spots = roomy(z.Spots, room, api.Spot{Node: 77, Part: 3, Side: 9, T: v(7)})
	whole.Low, part.Low = roomy(z.Low, room, 77)
	whole.High, part.High = roomy(z.High, room, 78)
	longs, shorts := make([][]bool, len(z.Below)), make([][]bool, len(z.Below))
	for i, row := range z.Below {
		longs[i], shorts[i] = roomy(row, room, true)
	}
	whole.Below, _ = roomy(longs, room, []bool{true})
	_, part.Below = roomy(shorts, room, []bool{true})
	return whole, part
}

func TestWhatIsHandedInStaysAsItWas(t *testing.T) {
	s := source(17)
	for _, k := range sorts() {
		for i := range 200 {
			z := s.anySense(k, s.below(6))
			if i%2 == 0 && len(k.few) > 0 {
				z = s.nearly(k)
			}
			l, vars, b := k.want(z, nil)
			for _, room := range []int{0, 1, 70} {
				all, part := spacious(z, room)
				allTerms, terms := roomy(l, room, v(55))
				was, wasTerms := like(all), slices.Clone(allTerms)
				of, n := pairs.Of(k.s, part)
				told := pairs.Bounds(k.s, part, terms, vars)
				if !slices.Equal(of, l) || n != vars || !slices.Equal(told, b) {
					t.Fatalf("%s: %v, with room: %s and %s, want %s and %s", k.name, z, list(of, n), chains(told), list(l, vars), chains(b))
				}
				if !equal(all, was) || !equal(part, z) || !slices.Equal(allTerms, wasTerms) || !slices.Equal(terms, l) {
					t.Fatalf("%s: %v became %v, %v became %v", k.name, was, all, wasTerms, allTerms)
				}
				// Terms that are not what Of tells stay as they were, too.
				pairs.Bounds(k.s, part, terms, vars+1)
				others, other := roomy(slices.Repeat([]api.Term{v(3)}, len(l)+1), room, v(56))
				wasOthers := slices.Clone(others)
				pairs.Bounds(k.s, part, other, vars)
				if !equal(all, was) || !slices.Equal(allTerms, wasTerms) || !slices.Equal(others, wasOthers) {
					t.Fatalf("%s: %v became %v, %v became %v, %v became %v", k.name, was, all, wasTerms, allTerms, wasOthers, others)
				}
			}
		}
		for _, a := range slices.Concat(k.few, k.other) {
			if k.s != nil && k.s.Has(a) != k.has(a) {
				t.Errorf("%s: Has(%d): %v", k.name, a, k.s.Has(a))
			}
		}
	}
}

// TestSpareRoomIsNotRead: what is missing stands there.
func TestSpareRoomIsNotRead(t *testing.T) {
	for name, with := range map[string]func(z *api.Sense){
		"a spot in the room": func(z *api.Sense) { z.Spots = z.Spots[:4] }, "a Low in the room": func(z *api.Sense) { z.Low = z.Low[:4] }, "a High in the room": func(z *api.Sense) { z.High = z.High[:4] },
		"a row in the room": func(z *api.Sense) { z.Below = z.Below[:4] }, "a place in the room": func(z *api.Sense) { z.Below[4] = z.Below[4][:4] },
	} {
		diamond().nothing(t, name, change(tied(), with))
	}
	k := diamond()
	l, vars, b := k.is(t, "terms", tied(), nil)
	if told := pairs.Bounds(k.s, tied(), l[:4], vars); len(told) != 0 || len(b) == 0 {
		t.Errorf("a term in the room: %s", chains(told))
	}
}

// TestRowsThatAreShared: one list may stand in a sense several times.
func TestRowsThatAreShared(t *testing.T) {
	k := chain("three labels", 3)
	ends, row := []uint64{1, 1, 1}, []bool{true, true, true}
	for _, side := range sides() {
		z := sided(side, side, side)
		z.Low, z.High, z.Below = ends, ends, [][]bool{row, row, row}
		k.told(t, "shared", z, "1 1 1; 0", "")
	}
	z := sided(both, both, both)
	z.Low, z.High, z.Below = ends, []uint64{2, 2, 2}, [][]bool{row, row, row}
	k.told(t, "shared rows", z, "V0 V0 V0; 1", "1<V0")
	if !slices.Equal(ends, []uint64{1, 1, 1}) || !slices.Equal(row, []bool{true, true, true}) {
		t.Errorf("%v, %v", ends, row)
	}
}

func TestEmptyAndNilMeanTheSame(t *testing.T) {
	for _, k := range sorts() {
		for ways := range 16 {
			var z api.Sense
			if ways&1 > 0 {
				z.Spots = []api.Spot{}
			}
			if ways&2 > 0 {
				z.Low = make([]uint64, 0, 3)
			}
			if ways&4 > 0 {
				z.High = []uint64{7}[:0]
			}
			if ways&8 > 0 {
				z.Below = [][]bool{{true}}[1:]
			}
			k.nothing(t, "empty or nil", z)
			for _, l := range [][]api.Term{nil, {}, {v(0)}} {
				if b := pairs.Bounds(k.s, z, l[:0], 0); len(b) != 0 {
					t.Errorf("%s: no terms: %s", k.name, chains(b))
				}
			}
		}
	}
}

// scribble: writes other values over a list and its spare room.
func scribble[T any](l []T, over T) {
	l = l[:cap(l)]
	for i := range l {
		l[i] = over
	}
}

// scrawl: writes other values over all of a sense, and its spare room.
func scrawl(z api.Sense) {
	scribble(z.Spots, api.Spot{Node: 99, Part: 9, Side: 9, T: v(99)})
	scribble(z.Low, 9999)
	scribble(z.High, 8888)
	for _, row := range z.Below[:cap(z.Below)] {
		for i := range row[:cap(row)] {
			row[:cap(row)][i] = !row[:cap(row)][i]
		}
	}
	scribble(z.Below, []bool{true, false, true})
}

// TestAnswersOwnTheirMemory: what is written into one answer, and behind it, is to be seen nowhere else; nor what becomes of what was handed in.
func TestAnswersOwnTheirMemory(t *testing.T) {
	s := source(19)
	for _, k := range sorts() {
		for i := range 100 {
			z := s.anySense(k, i%9)
			if i%2 == 0 && len(k.few) > 0 {
				z = s.nearly(k)
			}
			was := like(z)
			l, vars, b := k.want(was, nil)
			one, _ := pairs.Of(k.s, z)
			other, _ := pairs.Of(k.s, z)
			bounds, others := pairs.Bounds(k.s, z, other, vars), pairs.Bounds(k.s, z, other, vars)
			scribble(one, v(99))
			scribble(bounds, api.Bound{A: v(98), B: c(97)})
			if !equal(z, was) || !slices.Equal(other, l) || !slices.Equal(others, b) {
				t.Fatalf("%s: %v: what was written over an answer stands elsewhere: %v, %s, %s", k.name, was, z, list(other, vars), chains(others))
			}
			k.is(t, "after an answer was written over", z, nil)
			scribble(other, v(96))
			scrawl(z)
			if !slices.Equal(others, b) {
				t.Fatalf("%s: %v: an answer became %s", k.name, was, chains(others))
			}
		}
	}
	k := diamond()
	z := tied()
	l, vars := pairs.Of(k.s, z)
	was := slices.Clone(l)
	scrawl(z)
	if !slices.Equal(l, was) || vars != 3 {
		t.Errorf("an answer became %s", list(l, vars))
	}
}

// TestNothingIsKept: what becomes of what was handed in changes no later answer but its own.
func TestNothingIsKept(t *testing.T) {
	k := diamond()
	z := tied()
	k.told(t, "at first", z, "V0 V1 V1 V1 V2; 3", "V0<1 V0<V1 V1<V2 1<V2")
	z.Low[3] = 2
	k.told(t, "another Low", z, "V0 V1 V1 V2 V3; 4", "V0<1 V0<V1 V1<V2 V1<V3 2<V2 1<V3")
	z.Spots[3].Side = 3
	k.nothing(t, "no side", z)
	z.Spots[3].Side = both
	z.High[3] = 2
	k.told(t, "fixed", z, "V0 V1 V1 2 V2; 3", "V0<1 V0<V1 V1<V2 1<V2")
	z = tied()
	k.told(t, "as at first", z, "V0 V1 V1 V1 V2; 3", "V0<1 V0<V1 V1<V2 1<V2")
}

// R5

func TestAnswersHangOnArgumentsAlone(t *testing.T) {
	shared := sorts()
	var done sync.WaitGroup
	for worker := range 8 {
		done.Go(func() {
			own := sorts()
			s := source(worker + 50)
			for i := range shared {
				// Twice: of the same sorts as others ask, and of own ones.
				for _, k := range []sort{shared[(i+worker)%len(shared)], own[i]} {
					for n := range 100 {
						z := s.anySense(k, s.below(9))
						if n%2 == 0 && len(k.few) > 0 {
							z = s.nearly(k)
						}
						l, vars, b := k.want(z, nil)
						of, told := pairs.Of(k.s, z)
						bounds := pairs.Bounds(k.s, z, l, vars)
						if !slices.Equal(of, l) || told != vars || !slices.Equal(bounds, b) {
							t.Errorf("%s, beside others: %v: %s, %s", k.name, z, list(of, told), chains(bounds))
						}
					}
				}
			}
		})
	}
	done.Wait()
}
