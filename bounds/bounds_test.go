package bounds_test

import (
	"math"
	"slices"
	"sync"
	"testing"

	"cartouche/api"
	"cartouche/bounds"
	"cartouche/effects"
	"cartouche/lattices"
)

// A kind is a sort, and what the tests know of it by themselves.
type kind struct {
	name  string
	s     bounds.Sort
	few   []uint64 // some of its values; all of them, if there are few; none, if it has none
	other []uint64 // some that are none of its values
	has   func(a uint64) bool
	below func(a, b uint64) bool
	least func(these []uint64) uint64 // the least one above all these
	most  func(these []uint64) uint64 // the greatest one below all these
}

// labels: the kind of so many labels, of which that rule says which one is below which.
func labels(name string, n int, rule func(a, b int) bool) kind {
	rows := make([]uint64, n)
	k := kind{name: name, other: []uint64{uint64(n), uint64(n) + 1, 64, 1 << 32, math.MaxInt64, math.MaxUint64}}
	for a := range n {
		for b := range n {
			if rule(a, b) {
				rows[a] |= 1 << b
			}
		}
		k.few = append(k.few, uint64(a))
	}
	l, e := lattices.New(rows)
	if e != api.OK {
		panic(name)
	}
	k.s = l
	k.has = func(a uint64) bool { return a < uint64(n) }
	k.below = func(a, b uint64) bool { return k.has(a) && k.has(b) && rule(int(a), int(b)) }
	k.least = func(these []uint64) uint64 { return first(k.few, these, k.below) }
	k.most = func(these []uint64) uint64 {
		return first(k.few, these, func(a, b uint64) bool { return k.below(b, a) })
	}
	return k
}

// first: of all the one that these are below, and that is below all others that these are below.
func first(all, these []uint64, below func(a, b uint64) bool) uint64 {
	var ends []uint64
	for _, a := range all {
		if !slices.ContainsFunc(these, func(b uint64) bool { return !below(b, a) }) {
			ends = append(ends, a)
		}
	}
	for _, a := range ends {
		if !slices.ContainsFunc(ends, func(b uint64) bool { return !below(a, b) }) {
			return a
		}
	}
	panic("no lattice")
}

// sets: the kind of all sets of so many effects.
func sets(name string, n int) kind {
	in := func(set uint64, i int) bool { return set>>i&1 == 1 }
	told := func(is func(i int) bool) (set uint64) {
		for i := range 64 {
			if is(i) {
				set |= 1 << i
			}
		}
		return set
	}
	x, e := effects.New(n)
	if e != api.OK {
		panic(name)
	}
	k := kind{name: name, s: x}
	all := told(func(i int) bool { return i < n })
	for i := range uint64(8) {
		k.few = append(k.few, all&i, all&(i<<30), all&^(i<<61), all&(i*0x1111111111111111))
	}
	slices.Sort(k.few)
	k.few = slices.Compact(k.few)
	if n < 64 {
		k.other = []uint64{1 << n, 1<<n | 1&all, 1 << 63, math.MaxUint64}
	}
	k.has = func(a uint64) bool { return a&^all == 0 }
	k.below = func(a, b uint64) bool {
		for i := range 64 {
			if in(a, i) && !in(b, i) {
				return false
			}
		}
		return k.has(a) && k.has(b)
	}
	k.least = func(these []uint64) uint64 {
		return told(func(i int) bool { return slices.ContainsFunc(these, func(a uint64) bool { return in(a, i) }) })
	}
	k.most = func(these []uint64) uint64 {
		return told(func(i int) bool {
			return in(all, i) && !slices.ContainsFunc(these, func(a uint64) bool { return !in(a, i) })
		})
	}
	return k
}

func rising(a, b int) bool { return a <= b }

func part(a, b int) bool { return a&b == a }

func three() kind   { return labels("three labels in a row", 3, rising) }
func diamond() kind { return labels("a diamond", 4, part) }
func pentagon() kind {
	return labels("a pentagon", 5, func(a, b int) bool { return a == b || a == 0 || b == 4 || a == 2 && b == 3 })
}

// kinds: of one value and of many, in a row and beside one another.
func kinds() []kind {
	return []kind{
		three(), diamond(), pentagon(), sets("sets of two", 2),
		labels("one label", 1, rising),
		labels("two labels, falling", 2, func(a, b int) bool { return a >= b }),
		labels("64 labels in a row", 64, rising),
		labels("labels as sets of six", 64, part),
		labels("62 labels beside one another", 64, func(a, b int) bool { return a == b || a == 17 || b == 5 }),
		sets("sets of none", 0), sets("sets of one", 1), sets("sets of three", 3), sets("sets of 63", 63), sets("sets of 64", 64),
	}
}

// nones: sorts that have no values.
func nones() []kind {
	never := func(a, b uint64) bool { return false }
	some := []uint64{0, 1, 63, 64, math.MaxUint64}
	l := []kind{
		{name: "nothing"},
		{name: "no lattice", s: (*lattices.Lattice)(nil)},
		{name: "no effects", s: (*effects.Effects)(nil)},
		{name: "a lattice that no call made", s: new(lattices.Lattice)},
		{name: "effects that no call made", s: new(effects.Effects)},
	}
	for i := range l {
		l[i].other, l[i].below = some, never
		l[i].has = func(uint64) bool { return false }
	}
	return l
}

func v(n uint64) api.Term { return api.Term{Var: true, N: n} }
func c(n uint64) api.Term { return api.Term{N: n} }

// below: bounds, each of two terms that stand behind one another.
func below(terms ...api.Term) (l []api.Bound) {
	for i := 0; i < len(terms); i += 2 {
		l = append(l, api.Bound{A: terms[i], B: terms[i+1]})
	}
	return l
}

// chain: bounds that lead from each term to the next one.
func chain(terms ...api.Term) (l []api.Bound) {
	for i := range len(terms) - 1 {
		l = append(l, api.Bound{A: terms[i], B: terms[i+1]})
	}
	return l
}

// What the tests ask for is told by which terms lead to which ones, as the chapter words it; the program lets values grow.

// leads: the terms that one leads to.
func leads(from api.Term, l []api.Bound) []api.Term {
	to := []api.Term{from}
	for i := 0; i < len(to); i++ {
		for _, bound := range l {
			if bound.A == to[i] && !slices.Contains(to, bound.B) {
				to = append(to, bound.B)
			}
		}
	}
	return to
}

// check: what Check is to tell.
func (k kind) check(vars int, l []api.Bound) api.Errno {
	if vars < 0 || vars > 64 || len(l) > 256 {
		return api.ErrLimit
	}
	for _, bound := range l {
		for _, term := range []api.Term{bound.A, bound.B} {
			if term.Var && term.N >= uint64(vars) || !term.Var && !k.has(term.N) {
				return api.ErrArg
			}
		}
	}
	return api.OK
}

// solve: what Solve is to tell.
func (k kind) solve(vars int, l []api.Bound) (low, high []uint64, e api.Errno) {
	if e := k.check(vars, l); e != api.OK {
		return nil, nil, e
	}
	if vars > 0 && len(k.few) == 0 {
		return nil, nil, api.ErrUnsat
	}
	under, over := make([][]uint64, vars), make([][]uint64, vars)
	for _, bound := range l {
		if bound.A.Var {
			continue
		}
		for _, to := range leads(bound.A, l) {
			if to.Var {
				under[to.N] = append(under[to.N], bound.A.N)
			} else if !k.below(bound.A.N, to.N) {
				return nil, nil, api.ErrUnsat
			}
		}
	}
	for i := range vars {
		for _, to := range leads(v(uint64(i)), l) {
			if !to.Var {
				over[i] = append(over[i], to.N)
			}
		}
		low, high = append(low, k.least(under[i])), append(high, k.most(over[i]))
	}
	return low, high, api.OK
}

// hold: what Hold is to tell.
func (k kind) hold(values []uint64, l []api.Bound) bool {
	for _, bound := range l {
		two := [2]uint64{bound.A.N, bound.B.N}
		for i, term := range []api.Term{bound.A, bound.B} {
			if term.Var && term.N >= uint64(len(values)) {
				return false
			}
			if term.Var {
				two[i] = values[term.N]
			}
		}
		if !k.below(two[0], two[1]) {
			return false
		}
	}
	return true
}

// is holds Check, Solve and Hold of the ends against what they are to tell.
func (k kind) is(t *testing.T, name string, vars int, l []api.Bound) (low, high []uint64, e api.Errno) {
	t.Helper()
	if e, want := bounds.Check(k.s, vars, l), k.check(vars, l); e != want {
		t.Fatalf("%s, %s: Check(%d: %v): %v, want %v", name, k.name, vars, l, e, want)
	}
	wantLow, wantHigh, want := k.solve(vars, l)
	k.told(t, name, vars, l, wantLow, wantHigh, want)
	if want == api.OK && vars <= 64 {
		k.held(t, name, wantLow, l, true)
		k.held(t, name, wantHigh, l, true)
	}
	return wantLow, wantHigh, want
}

// told holds Solve against what is written there.
func (k kind) told(t *testing.T, name string, vars int, l []api.Bound, low, high []uint64, e api.Errno) {
	t.Helper()
	gotLow, gotHigh, gotE := bounds.Solve(k.s, vars, l)
	if gotE != e || !slices.Equal(gotLow, low) || !slices.Equal(gotHigh, high) {
		t.Fatalf("%s, %s: Solve(%d: %v): %v, %v, %v, want %v, %v, %v", name, k.name, vars, l, gotLow, gotHigh, gotE, low, high, e)
	}
}

// held holds Hold against what is written there.
func (k kind) held(t *testing.T, name string, values []uint64, l []api.Bound, want bool) {
	t.Helper()
	if got := bounds.Hold(k.s, values, l); got != want {
		t.Fatalf("%s, %s: Hold(%v: %v): %v, want %v", name, k.name, values, l, got, want)
	}
}

// A source tells numbers with no rule to be seen in them, the same ones each time.
type source uint64

// below: the next one, below n.
func (s *source) below(n int) int {
	*s = *s*6364136223846793005 + 1442695040888963407
	return int(*s >> 33 % source(n))
}

// shuffled: the same bounds, in another order.
func (s *source) shuffled(l []api.Bound) []api.Bound {
	l = slices.Clone(l)
	for i := range l {
		j := i + s.below(len(l)-i)
		l[i], l[j] = l[j], l[i]
	}
	return l
}

func (s *source) value(k kind) uint64 { return k.few[s.below(len(k.few))] }

// bound: one that may be, of so many variables, of which one in so many terms is a constant.
func (s *source) bound(k kind, vars, constants int) (b api.Bound) {
	for _, term := range []*api.Term{&b.A, &b.B} {
		*term = c(s.value(k))
		if vars > 0 && s.below(constants) > 0 {
			*term = v(uint64(s.below(vars)))
		}
	}
	return b
}

func (s *source) bounds(k kind, vars, n, constants int) (l []api.Bound) {
	for range n {
		l = append(l, s.bound(k, vars, constants))
	}
	return l
}

// The chapter's examples.

func TestExamples(t *testing.T) {
	k := three()
	k.told(t, "example", 2, below(c(1), v(0), v(0), v(1)), []uint64{1, 1}, []uint64{2, 2}, api.OK)
	k.told(t, "example", 1, below(c(2), v(0), v(0), c(1)), nil, nil, api.ErrUnsat)
	k.told(t, "example", 1, below(v(1), v(0)), nil, nil, api.ErrArg)
	k.told(t, "example", 0, below(c(3), c(3)), nil, nil, api.ErrArg)
	k.told(t, "example", 65, nil, nil, nil, api.ErrLimit)
	k.held(t, "example", []uint64{0, 1}, below(v(0), v(1)), true)
	k.held(t, "example", []uint64{1, 0}, below(v(0), v(1)), false)
	k.held(t, "example", []uint64{0}, below(v(0), v(1)), false)
}

// P10.1

func TestHowManyVariablesThereAre(t *testing.T) {
	for _, k := range append(kinds(), nones()...) {
		for _, vars := range []int{math.MinInt, math.MinInt + 64, math.MinInt32, -256, -65, -64, -2, -1, 65, 66, 128, 256, 1 << 32, 1<<32 + 1, math.MaxInt - 1, math.MaxInt} {
			if e := bounds.Check(k.s, vars, nil); e != api.ErrLimit {
				t.Errorf("%s: Check(%d): %v", k.name, vars, e)
			}
			k.told(t, "too many, or too few", vars, nil, nil, nil, api.ErrLimit)
		}
		for vars := range 65 {
			if e := bounds.Check(k.s, vars, nil); e != api.OK {
				t.Errorf("%s: Check(%d): %v", k.name, vars, e)
			}
			low, high, _ := k.is(t, "no bounds", vars, nil)
			if len(k.few) > 0 && (len(low) != vars || len(high) != vars) {
				t.Errorf("%s: of %d variables: %v, %v", k.name, vars, low, high)
			}
		}
	}
}

func TestHowManyBoundsThereAre(t *testing.T) {
	for _, k := range kinds() {
		all := slices.Repeat(below(v(0), v(63), c(k.few[0]), c(k.few[0])), 200)
		for _, n := range []int{0, 1, 2, 64, 65, 254, 255, 256} {
			if e := bounds.Check(k.s, 64, all[:n]); e != api.OK {
				t.Errorf("%s: Check of %d bounds: %v", k.name, n, e)
			}
			if _, _, e := k.is(t, "many bounds", 64, all[:n]); e != api.OK {
				t.Errorf("%s: Solve of %d bounds: %v", k.name, n, e)
			}
		}
		for _, n := range []int{257, 258, 400} {
			if e := bounds.Check(k.s, 64, all[:n]); e != api.ErrLimit {
				t.Errorf("%s: Check of %d bounds: %v", k.name, n, e)
			}
			k.told(t, "too many bounds", 64, all[:n], nil, nil, api.ErrLimit)
		}
	}
	for _, k := range nones() {
		for n, want := range map[int]api.Errno{0: api.OK, 256: api.OK, 257: api.ErrLimit} {
			if e := bounds.Check(k.s, 1, slices.Repeat(below(v(0), v(0)), n)); e != want {
				t.Errorf("%s: Check of %d bounds: %v", k.name, n, e)
			}
		}
	}
}

// TestTermsThatMayNotBe: one such term among others that may be, first and second, in each place.
func TestTermsThatMayNotBe(t *testing.T) {
	for _, k := range kinds() {
		for _, vars := range []int{0, 1, 2, 63, 64} {
			bad := []api.Term{}
			for _, n := range []uint64{uint64(vars), uint64(vars) + 1, 64, 65, 1 << 31, 1 << 32, 1 << 63, math.MaxInt64, math.MaxUint64} {
				bad = append(bad, v(n))
			}
			for _, n := range k.other {
				bad = append(bad, c(n))
			}
			good := c(k.few[len(k.few)-1])
			if vars > 0 {
				good = v(uint64(vars - 1))
			}
			for _, term := range bad {
				for _, bound := range below(term, good, good, term, term, term) {
					l := slices.Repeat(below(good, good), 4)
					k.is(t, "bounds that may be", vars, l)
					for at := range l {
						some := slices.Insert(slices.Clone(l), at, bound)
						if e := bounds.Check(k.s, vars, some); e != api.ErrArg {
							t.Fatalf("%s: Check(%d: %v): %v", k.name, vars, some, e)
						}
						k.told(t, "a bound that may not be", vars, some, nil, nil, api.ErrArg)
					}
				}
			}
		}
	}
}

// TestNumbersOfVariablesAreNoValues: a variable's number is not held against the sort, a constant not against the variables.
func TestNumbersOfVariablesAreNoValues(t *testing.T) {
	k := labels("one label", 1, rising)
	for i := range uint64(64) {
		k.is(t, "a variable above all labels", 64, below(v(i), c(0), c(0), v(i)))
	}
	k = labels("64 labels in a row", 64, rising)
	for i := range uint64(64) {
		k.told(t, "a label above all variables", 1, below(c(i), v(0)), []uint64{i}, []uint64{63}, api.OK)
		k.told(t, "labels alone", 0, below(c(i), c(63)), nil, nil, api.OK)
	}
}

// TestAllBoundsOfTermsAtTheEdges: whatever Check tells, of each two terms.
func TestAllBoundsOfTermsAtTheEdges(t *testing.T) {
	for _, k := range append(kinds(), nones()...) {
		var terms []api.Term
		for n := range uint64(5) {
			terms = append(terms, v(n), c(n))
		}
		for _, n := range []uint64{62, 63, 64, 65, 255, 256, 1 << 62, 1 << 63, math.MaxUint64} {
			terms = append(terms, v(n), c(n))
		}
		for _, a := range terms {
			for _, b := range terms {
				for _, vars := range []int{-1, 0, 1, 3, 63, 64, 65} {
					k.is(t, "a bound at the edges", vars, below(a, b))
				}
			}
		}
	}
}

// TestLimitIsToldFirst: ahead of terms that may not be, and of bounds of no values.
func TestLimitIsToldFirst(t *testing.T) {
	for _, k := range append(kinds(), nones()...) {
		bad := below(v(70), c(math.MaxUint64))
		for _, l := range [][]api.Bound{bad, below(c(0), v(1<<40)), slices.Repeat(bad, 257)} {
			for _, vars := range []int{math.MinInt, -1, 65, math.MaxInt} {
				k.told(t, "variables, and terms", vars, l, nil, nil, api.ErrLimit)
				if e := bounds.Check(k.s, vars, l); e != api.ErrLimit {
					t.Errorf("%s: Check(%d): %v", k.name, vars, e)
				}
			}
		}
		for _, vars := range []int{0, 1, 64} {
			l := append(slices.Repeat(bad, 256), below(v(0), v(0))...)
			k.told(t, "bounds, and terms", vars, l, nil, nil, api.ErrLimit)
			if e := bounds.Check(k.s, vars, l); e != api.ErrLimit {
				t.Errorf("%s: Check: %v", k.name, e)
			}
		}
	}
	k := three()
	no := below(c(2), v(0), v(0), c(1))
	k.told(t, "bounds of no values", 1, slices.Repeat(no, 129), nil, nil, api.ErrLimit)
	k.told(t, "bounds of no values", 65, no, nil, nil, api.ErrLimit)
	k.told(t, "bounds of no values", 0, no, nil, nil, api.ErrArg)
	k.told(t, "bounds of no values, and a term", 1, append(no, below(v(0), c(3))...), nil, nil, api.ErrArg)
	k.told(t, "a term, and bounds of no values", 1, append(below(v(1), v(0)), no...), nil, nil, api.ErrArg)
	k.told(t, "labels of no values, and a term", 0, below(c(1), c(0), c(3), c(3)), nil, nil, api.ErrArg)
}

// P10.2

func TestWrittenBounds(t *testing.T) {
	type row struct {
		name      string
		vars      int
		l         []api.Bound
		low, high []uint64
		e         api.Errno
	}
	no := api.ErrUnsat
	for _, r := range []row{
		{"none", 0, nil, nil, nil, 0},
		{"no bounds", 2, nil, []uint64{0, 0}, []uint64{3, 3}, 0},
		{"a constant below itself", 0, below(c(1), c(1)), nil, nil, 0},
		{"a constant below another one", 0, below(c(1), c(3)), nil, nil, 0},
		{"a constant not below another one", 0, below(c(3), c(1)), nil, nil, no},
		{"two constants beside one another", 0, below(c(1), c(2)), nil, nil, no},
		{"constants alone, a variable", 1, below(c(2), c(1)), nil, nil, no},
		{"a constant below a variable", 2, below(c(1), v(1)), []uint64{0, 1}, []uint64{3, 3}, 0},
		{"a variable below a constant", 2, below(v(1), c(1)), []uint64{0, 0}, []uint64{3, 1}, 0},
		{"two variables", 2, below(v(1), v(0)), []uint64{0, 0}, []uint64{3, 3}, 0},
		{"a variable and itself", 1, below(v(0), v(0)), []uint64{0}, []uint64{3}, 0},
		{"one value", 1, below(c(2), v(0), v(0), c(2)), []uint64{2}, []uint64{2}, 0},
		{"two below one", 1, below(c(1), v(0), c(2), v(0)), []uint64{3}, []uint64{3}, 0},
		{"one below two", 1, below(v(0), c(1), v(0), c(2)), []uint64{0}, []uint64{0}, 0},
		{"two below one that is below one", 1, below(c(1), v(0), c(2), v(0), v(0), c(1)), nil, nil, no},
		{"below one beside it", 1, below(c(1), v(0), v(0), c(2)), nil, nil, no},
		{"least ones go up alone", 3, below(v(0), v(1), c(1), v(1), v(1), v(2)), []uint64{0, 1, 1}, []uint64{3, 3, 3}, 0},
		{"greatest ones go down alone", 3, below(v(0), v(1), v(1), c(1), v(1), v(2)), []uint64{0, 0, 0}, []uint64{1, 1, 3}, 0},
		{"both, beside one another", 3, below(c(1), v(0), v(0), v(2), c(2), v(1), v(1), v(2)), []uint64{1, 2, 3}, []uint64{3, 3, 3}, 0},
		{"both, below", 3, below(v(0), v(1), v(0), v(2), v(1), c(1), v(2), c(2)), []uint64{0, 0, 0}, []uint64{0, 1, 2}, 0},
		{"over a constant", 2, below(v(0), c(1), c(1), v(1)), []uint64{0, 1}, []uint64{1, 3}, 0},
		{"over two constants", 2, below(v(0), c(1), c(1), c(3), c(3), v(1)), []uint64{0, 3}, []uint64{1, 3}, 0},
		{"over two constants, not below", 2, below(v(0), c(3), c(3), c(1), c(1), v(1)), nil, nil, no},
		{"a constant, over a constant", 1, below(c(1), v(0), v(0), c(3), c(3), c(2)), nil, nil, no},
		{"a ring", 2, below(v(0), v(1), v(1), v(0), c(1), v(0)), []uint64{1, 1}, []uint64{3, 3}, 0},
		{"a ring, below", 2, below(v(0), v(1), v(1), v(0), v(1), c(2)), []uint64{0, 0}, []uint64{2, 2}, 0},
		{"a ring of a constant", 1, below(v(0), c(2), c(2), v(0)), []uint64{2}, []uint64{2}, 0},
		{"a ring of two constants", 2, below(c(1), v(0), v(0), c(3), c(3), v(1), v(1), c(1)), nil, nil, no},
		{"ends beside one another", 2, below(v(0), c(1), v(1), c(2), v(0), v(1)), []uint64{0, 0}, []uint64{0, 2}, 0},
	} {
		diamond().told(t, r.name, r.vars, r.l, r.low, r.high, r.e)
		// As sets of two effects the values are the same ones.
		sets("sets of two", 2).told(t, r.name, r.vars, r.l, r.low, r.high, r.e)
		source := source(5)
		for range 10 {
			diamond().told(t, r.name+", in another order", r.vars, source.shuffled(r.l), r.low, r.high, r.e)
		}
		diamond().is(t, r.name, r.vars, r.l)
	}
}

// TestOneBound: of each kind, of each two terms.
func TestOneBound(t *testing.T) {
	for _, k := range kinds() {
		terms := []api.Term{v(0), v(1), v(2)}
		for _, a := range k.few {
			terms = append(terms, c(a))
		}
		for _, a := range terms {
			for _, b := range terms {
				_, _, e := k.is(t, "one bound", 3, below(a, b))
				fits := a.Var || b.Var || k.below(a.N, b.N)
				if (e == api.OK) != fits {
					t.Fatalf("%s: %v: %v", k.name, below(a, b), e)
				}
			}
		}
	}
}

// orders: bounds as they are, from behind, and in some other orders.
func orders(l []api.Bound) [][]api.Bound {
	s := source(3)
	back := slices.Clone(l)
	slices.Reverse(back)
	return [][]api.Bound{l, back, s.shuffled(l), s.shuffled(l)}
}

// TestConstantsThatLeadOverVariables: over none, one, and as many as there may be, in whatever order the bounds stand.
func TestConstantsThatLeadOverVariables(t *testing.T) {
	for _, k := range kinds() {
		for _, over := range []int{0, 1, 2, 31, 63, 64} {
			for i := range 5 {
				s := source(i + over)
				from, to := s.value(k), s.value(k)
				terms := []api.Term{c(from)}
				for n := range over {
					terms = append(terms, v(uint64((n*37+i)%over)))
				}
				terms = append(terms, c(to))
				for _, l := range orders(chain(terms...)) {
					_, _, e := k.is(t, "over variables", 64, l)
					if (e == api.OK) != k.below(from, to) {
						t.Fatalf("%s: from %d to %d over %d: %v", k.name, from, to, over, e)
					}
				}
				// Each end alone: nothing fails.
				for _, l := range append(orders(chain(terms[1:]...)), orders(chain(terms[:len(terms)-1]...))...) {
					if _, _, e := k.is(t, "over variables, one end", 64, l); e != api.OK {
						t.Fatalf("%s: one end alone: %v", k.name, e)
					}
				}
			}
		}
	}
}

// TestEveryVariableOfAChain: a constant that leads to one in the midst is met by those behind it alone, one that it leads to by those ahead of it.
func TestEveryVariableOfAChain(t *testing.T) {
	k := diamond()
	var terms []api.Term
	for i := range uint64(64) {
		terms = append(terms, v(i))
	}
	for at := range uint64(64) {
		up := append(chain(terms...), below(c(2), v(at))...)
		down := append(chain(terms...), below(v(at), c(2))...)
		for _, l := range orders(up) {
			low, high, _ := k.is(t, "up", 64, l)
			if slices.Index(low, 2) != int(at) || slices.Index(high, 3) != 0 {
				t.Fatalf("from %d on: %v, %v", at, low, high)
			}
		}
		for _, l := range orders(down) {
			low, high, _ := k.is(t, "down", 64, l)
			if slices.Index(low, 2) != -1 || slices.Contains(high[:at+1], 3) || slices.Contains(high[at+1:], 2) {
				t.Fatalf("up to %d: %v, %v", at, low, high)
			}
		}
	}
}

// TestRings: all in it have the same ends.
func TestRings(t *testing.T) {
	for _, k := range kinds() {
		for _, size := range []int{1, 2, 3, 63, 64} {
			for i := range 8 {
				s := source(i)
				var ring []api.Term
				for n := range size {
					ring = append(ring, v(uint64(n)))
				}
				ring = append(ring, ring[0])
				from, to := s.value(k), s.value(k)
				l := append(chain(ring...), below(c(from), v(uint64(s.below(size))), v(uint64(s.below(size))), c(to))...)
				for _, l := range orders(l) {
					low, high, e := k.is(t, "a ring", size, l)
					if (e == api.OK) != k.below(from, to) {
						t.Fatalf("%s: a ring from %d to %d: %v", k.name, from, to, e)
					}
					if e == api.OK && (len(slices.Compact(low)) != 1 || low[0] != from || len(slices.Compact(high)) != 1 || high[0] != to) {
						t.Fatalf("%s: a ring from %d to %d: %v, %v", k.name, from, to, low, high)
					}
				}
			}
		}
	}
}

// TestManyConstants: all that lead to one variable, over others each, and all that it leads to.
func TestManyConstants(t *testing.T) {
	for _, k := range kinds() {
		var up, down []api.Bound
		var used []uint64
		for i, a := range k.few[:min(len(k.few), 63)] {
			on := v(uint64(i + 1))
			up = append(up, below(on, v(0), c(a), on)...)
			down = append(down, below(on, c(a), v(0), on)...)
			used = append(used, a)
			low, high, _ := k.is(t, "many lead there", 64, up)
			if low[0] != k.least(used) || high[0] != k.most(nil) {
				t.Fatalf("%s: %v: %d, %d", k.name, used, low[0], high[0])
			}
			low, high, _ = k.is(t, "it leads to many", 64, down)
			if low[0] != k.least(nil) || high[0] != k.most(used) {
				t.Fatalf("%s: %v: %d, %d", k.name, used, low[0], high[0])
			}
		}
	}
}

// TestEachConstantIsLookedAt: where one of two that lead to a third one is not below it, whichever, and wherever it stands.
func TestEachConstantIsLookedAt(t *testing.T) {
	for _, k := range []kind{three(), diamond(), pentagon(), sets("sets of two", 2), sets("sets of three", 3)} {
		for _, a := range k.few {
			for _, b := range k.few {
				for _, d := range k.few {
					for _, l := range orders(below(c(a), v(0), c(b), v(1), v(0), v(2), v(1), v(2), v(2), c(d))) {
						_, _, e := k.is(t, "two lead to a third one", 3, l)
						if (e == api.OK) != (k.below(a, d) && k.below(b, d)) {
							t.Fatalf("%s: %d and %d to %d: %v", k.name, a, b, d, e)
						}
					}
					for _, l := range orders(below(c(d), v(0), v(0), v(1), v(1), c(a), v(0), v(2), v(2), c(b))) {
						_, _, e := k.is(t, "one leads to two", 3, l)
						if (e == api.OK) != (k.below(d, a) && k.below(d, b)) {
							t.Fatalf("%s: %d to %d and %d: %v", k.name, d, a, b, e)
						}
					}
				}
			}
		}
	}
}

// TestConstantsThatLeadOverConstants: bounds of constants lead on as others do.
func TestConstantsThatLeadOverConstants(t *testing.T) {
	for _, k := range kinds() {
		s := source(9)
		for range 200 {
			terms := []api.Term{v(0)}
			fits := true
			for i := range 2 + s.below(4) {
				a := s.value(k)
				if i > 0 {
					fits = fits && k.below(terms[len(terms)-1].N, a)
				}
				terms = append(terms, c(a))
			}
			terms = append(terms, v(1))
			for _, l := range orders(chain(terms...)) {
				low, high, e := k.is(t, "over constants", 3, l)
				if (e == api.OK) != fits {
					t.Fatalf("%s: %v: %v", k.name, l, e)
				}
				if e == api.OK && (high[0] != terms[1].N || low[1] != terms[len(terms)-2].N) {
					t.Fatalf("%s: %v: %v, %v", k.name, l, low, high)
				}
			}
		}
	}
}

// TestSortsWithoutValues: no variable has one; where there is none, nothing is asked.
func TestSortsWithoutValues(t *testing.T) {
	for _, k := range nones() {
		k.told(t, "no variables", 0, nil, nil, nil, api.OK)
		for _, vars := range []int{1, 2, 63, 64} {
			k.told(t, "variables", vars, nil, nil, nil, api.ErrUnsat)
			for _, l := range [][]api.Bound{below(v(0), v(0)), below(v(0), v(uint64(vars-1))), slices.Repeat(below(v(0), v(0)), 256)} {
				k.told(t, "bounds of variables", vars, l, nil, nil, api.ErrUnsat)
				if e := bounds.Check(k.s, vars, l); e != api.OK {
					t.Errorf("%s: Check: %v", k.name, e)
				}
			}
		}
		for vars := range 3 {
			for _, a := range k.other {
				for _, bound := range below(c(a), c(a), c(0), c(a), c(a), v(0), v(0), c(a)) {
					k.told(t, "constants", vars, []api.Bound{bound}, nil, nil, api.ErrArg)
				}
			}
			k.told(t, "a variable that there is not", vars, below(v(uint64(vars)), v(uint64(vars))), nil, nil, api.ErrArg)
		}
		for _, values := range [][]uint64{nil, {0}, {0, 0}, {0, 1, math.MaxUint64}} {
			k.held(t, "no bounds", values, nil, true)
			for _, bound := range below(v(0), v(0), c(0), c(0), c(0), v(0), v(0), c(0), c(5), c(5)) {
				k.held(t, "a bound", values, []api.Bound{bound}, false)
			}
		}
	}
}

// TestSortsThatHaveOneValue: least and greatest are the same.
func TestSortsThatHaveOneValue(t *testing.T) {
	for _, k := range []kind{labels("one label", 1, rising), sets("sets of none", 0)} {
		none := make([]uint64, 64)
		k.told(t, "no bounds", 64, nil, none, none, api.OK)
		k.told(t, "bounds", 64, below(c(0), v(5), v(5), v(6), v(6), c(0), c(0), c(0)), none, none, api.OK)
		k.told(t, "another one", 64, below(c(1), v(5)), nil, nil, api.ErrArg)
	}
}

func TestABoundThatStandsTwice(t *testing.T) {
	for _, k := range kinds() {
		s := source(11)
		for range 60 {
			vars := s.below(5)
			l := s.bounds(k, vars, 1+s.below(5), 3)
			low, high, e := k.solve(vars, l)
			for i := range l {
				k.told(t, "twice", vars, append(slices.Clone(l), l[i]), low, high, e)
				k.told(t, "twice, ahead", vars, slices.Insert(slices.Clone(l), 0, l[i]), low, high, e)
			}
			k.told(t, "all twice", vars, slices.Concat(l, l), low, high, e)
		}
	}
}

// TestOneBoundMore: least ones never fall by it, nor do greatest ones rise, nor does what failed hold.
func TestOneBoundMore(t *testing.T) {
	for _, k := range kinds() {
		s := source(13)
		for range 100 {
			vars := 1 + s.below(5)
			var l []api.Bound
			wasLow, wasHigh, was := k.is(t, "none yet", vars, l)
			for range 12 {
				l = append(l, s.bound(k, vars, 4))
				low, high, e := k.is(t, "one more", vars, l)
				if was != api.OK && e == api.OK {
					t.Fatalf("%s: %v: %v, then %v", k.name, l, was, e)
				}
				for i := range low {
					if !k.below(wasLow[i], low[i]) || !k.below(high[i], wasHigh[i]) {
						t.Fatalf("%s: %v: %v to %v, then %v to %v", k.name, l, wasLow, wasHigh, low, high)
					}
				}
				wasLow, wasHigh, was = low, high, e
			}
		}
	}
}

// TestAnyBounds: of each kind, of few and of many variables and bounds.
func TestAnyBounds(t *testing.T) {
	counts := map[api.Errno]int{}
	for i, k := range kinds() {
		s := source(i)
		for range 400 {
			vars := []int{0, 1, 2, 3, 5, 8, 20, 64}[s.below(8)]
			n := []int{0, 1, 2, 4, 8, 16, 40, 120}[s.below(8)]
			_, _, e := k.is(t, "any bounds", vars, s.bounds(k, vars, n, 2+s.below(30)))
			counts[e]++
		}
		for range 15 {
			_, _, e := k.is(t, "as many as may be", 64, s.bounds(k, 64, 256, 60))
			counts[e]++
			_, _, e = k.is(t, "a few constants", 64, s.bounds(k, 64, 80, 60))
			counts[e]++
		}
	}
	if counts[api.OK] < 1000 || counts[api.ErrUnsat] < 1000 {
		t.Errorf("bounds, by their errors: %v", counts)
	}
}

// P10.3

func TestWrittenValues(t *testing.T) {
	k := diamond()
	for _, r := range []struct {
		name   string
		values []uint64
		l      []api.Bound
		want   bool
	}{
		{"no bounds, no values", nil, nil, true},
		{"no bounds", []uint64{0, 3}, nil, true},
		{"no bounds, none of the sort", []uint64{4, math.MaxUint64}, nil, true},
		{"constants", nil, below(c(1), c(3)), true},
		{"constants turned", nil, below(c(3), c(1)), false},
		{"constants beside one another", nil, below(c(1), c(2)), false},
		{"a constant and itself", nil, below(c(2), c(2)), true},
		{"constants of no label", nil, below(c(4), c(4)), false},
		{"the second one of no label", nil, below(c(0), c(4)), false},
		{"the first one of no label", nil, below(c(4), c(3)), false},
		{"a variable", []uint64{1}, below(c(1), v(0)), true},
		{"a variable below", []uint64{1}, below(v(0), c(1)), true},
		{"a variable, not below", []uint64{1}, below(v(0), c(2)), false},
		{"a variable, not above", []uint64{1}, below(c(2), v(0)), false},
		{"itself", []uint64{3}, below(v(0), v(0)), true},
		{"itself, none of the sort", []uint64{4}, below(v(0), v(0)), false},
		{"none of the sort, first", []uint64{4, 3}, below(v(0), v(1)), false},
		{"none of the sort, second", []uint64{0, 4}, below(v(0), v(1)), false},
		{"none of the sort, not asked", []uint64{0, 3, 4}, below(v(0), v(1)), true},
		{"two variables", []uint64{1, 3}, below(v(0), v(1)), true},
		{"two variables turned", []uint64{1, 3}, below(v(1), v(0)), false},
		{"two beside one another", []uint64{1, 2}, below(v(0), v(1)), false},
		{"no value, first", []uint64{0}, below(v(1), v(0)), false},
		{"no value, second", []uint64{0}, below(v(0), v(1)), false},
		{"no value, both", []uint64{0}, below(v(1), v(1)), false},
		{"no value, a constant", []uint64{0}, below(c(0), v(1)), false},
		{"no value, below the top", []uint64{0}, below(v(1), c(3)), false},
		{"no values", nil, below(v(0), v(0)), false},
		{"far from any value", []uint64{0}, below(v(math.MaxUint64), c(3)), false},
		{"far from any value, too", []uint64{0}, below(c(0), v(1<<63)), false},
		{"by 32 bits the first one", []uint64{0}, below(c(0), v(1<<32)), false},
		{"more values", []uint64{0, 1, 2, 3, 0}, below(v(0), v(1)), true},
		{"the last one fails", []uint64{0, 1}, below(v(0), v(1), c(0), v(0), v(1), c(2)), false},
		{"the first one fails", []uint64{0, 1}, below(v(1), c(2), v(0), v(1), c(0), v(0)), false},
		{"all hold", []uint64{0, 1}, below(v(1), c(3), v(0), v(1), c(0), v(0)), true},
		{"bounds of no values", []uint64{0, 1}, below(v(0), v(0), c(3), c(0)), false},
	} {
		k.held(t, r.name, r.values, r.l, r.want)
		if k.hold(r.values, r.l) != r.want {
			t.Errorf("%s: the tests themselves tell something else", r.name)
		}
	}
}

// TestHoldHasNoLimits: more variables than there may be, and more bounds.
func TestHoldHasNoLimits(t *testing.T) {
	for _, k := range kinds() {
		values := slices.Repeat([]uint64{k.least(nil)}, 1000)
		values[999] = k.most(nil)
		k.held(t, "more values", values, below(v(64), v(999), v(0), v(998)), true)
		k.held(t, "more values, turned", values, below(v(999), v(64)), k.least(nil) == k.most(nil))
		l := slices.Repeat(below(v(0), v(999)), 300)
		k.held(t, "more bounds", values, l, true)
		l[299] = api.Bound{A: v(1000), B: v(999)}
		k.held(t, "more bounds, the last one fails", values, l, false)
	}
}

// TestAnyValues: of any bounds, values of the sort and others.
func TestAnyValues(t *testing.T) {
	counts := map[bool]int{}
	for i, k := range append(kinds(), nones()...) {
		s := source(i)
		any := append(slices.Repeat(k.few, 8), k.other...)
		for range 3000 {
			var values []uint64
			for range s.below(5) {
				values = append(values, any[s.below(len(any))])
			}
			var l []api.Bound
			for range s.below(4) {
				terms := [2]api.Term{}
				for i := range terms {
					terms[i] = c(any[s.below(len(any))])
					if s.below(3) > 0 {
						terms[i] = v(uint64(s.below(5)))
					}
				}
				l = append(l, below(terms[:]...)...)
			}
			want := k.hold(values, l)
			k.held(t, "any values", values, l, want)
			if len(l) > 0 {
				counts[want]++
			}
		}
	}
	if counts[true] < 1000 || counts[false] < 1000 {
		t.Errorf("values, by whether they hold: %v", counts)
	}
}

// P10.4

// valued: all lists of so many of the values.
func valued(values []uint64, n int) [][]uint64 {
	all := [][]uint64{nil}
	for range n {
		var more [][]uint64
		for _, l := range all {
			for _, a := range values {
				more = append(more, append(slices.Clone(l), a))
			}
		}
		all = more
	}
	return all
}

// between holds all values against what Solve tells: those that hold lie between the ends, which hold; where it tells that there are none, there are none.
func (k kind) between(t *testing.T, l []api.Bound, vars int, all [][]uint64) (many int) {
	t.Helper()
	low, high, e := bounds.Solve(k.s, vars, l)
	if e != api.OK && e != api.ErrUnsat {
		t.Fatalf("%s: Solve(%d: %v): %v", k.name, vars, l, e)
	}
	for _, values := range all {
		if !bounds.Hold(k.s, values, l) {
			continue
		}
		many++
		for i, a := range values {
			if e != api.OK || !k.below(low[i], a) || !k.below(a, high[i]) {
				t.Fatalf("%s: %v hold of %v; told: %v to %v, %v", k.name, values, l, low, high, e)
			}
		}
	}
	if (e == api.OK) != (many > 0) || e == api.OK && (!bounds.Hold(k.s, low, l) || !bounds.Hold(k.s, high, l)) {
		t.Fatalf("%s: of %v %d values hold; told: %v to %v, %v", k.name, l, many, low, high, e)
	}
	return many
}

// TestAllListsOfFewBounds: all lists of up to three bounds of two variables and two labels, and of up to two of a diamond.
func TestAllListsOfFewBounds(t *testing.T) {
	for _, row := range []struct {
		k    kind
		most int
	}{{labels("two labels", 2, rising), 3}, {sets("sets of one", 1), 3}, {diamond(), 2}, {sets("sets of two", 2), 2}, {three(), 2}, {pentagon(), 2}} {
		k := row.k
		all := valued(k.few, 2)
		terms := []api.Term{v(0), v(1)}
		for _, a := range k.few {
			terms = append(terms, c(a))
		}
		var one []api.Bound
		for _, a := range terms {
			for _, b := range terms {
				one = append(one, api.Bound{A: a, B: b})
			}
		}
		lists := [][]api.Bound{nil}
		for range row.most + 1 {
			var more [][]api.Bound
			for _, l := range lists {
				k.is(t, "few bounds", 2, l)
				k.between(t, l, 2, all)
				for _, bound := range one {
					more = append(more, append(slices.Clone(l), bound))
				}
			}
			lists = more
		}
	}
}

// TestAllValues: of some more variables, all values gone through.
func TestAllValues(t *testing.T) {
	lone, many := 0, 0
	for i, row := range []struct {
		k    kind
		vars int
	}{{labels("two labels", 2, rising), 8}, {three(), 5}, {diamond(), 4}, {pentagon(), 4}, {sets("sets of one", 1), 8}, {sets("sets of two", 2), 4}, {sets("sets of three", 3), 3}, {labels("eight labels as sets", 8, part), 3}} {
		all := valued(row.k.few, row.vars)
		s := source(i)
		for range 300 {
			l := s.bounds(row.k, row.vars, s.below(9), 4)
			switch n := row.k.between(t, l, row.vars, all); {
			case n == 1:
				lone++
			case n > 1:
				many++
			}
		}
	}
	if lone < 10 || many < 500 {
		t.Errorf("one alone: %d; many: %d", lone, many)
	}
}

// TestNoVariables: just the constants are to hold.
func TestNoVariables(t *testing.T) {
	for _, k := range kinds() {
		s := source(17)
		for range 200 {
			l := s.bounds(k, 0, s.below(5), 1)
			k.is(t, "no variables", 0, l)
			k.between(t, l, 0, valued(k.few, 0))
		}
	}
}

// R1, R2

// TestEveryCallEndsAtAnyBounds: whatever numbers stand in them, of whatever sort.
func TestEveryCallEndsAtAnyBounds(t *testing.T) {
	s := source(19)
	all := append(kinds(), nones()...)
	numbers := []uint64{0, 0, 1, 2, 3, 4, 63, 64, 65, 1 << 31, 1 << 32, 1 << 63, math.MaxInt64, math.MaxUint64}
	counts := []int{0, 1, 2, 3, 4, 64, 65, -1, 256, 257, math.MinInt, math.MaxInt}
	term := func() api.Term { return api.Term{Var: s.below(2) == 0, N: numbers[s.below(4)*s.below(5)]} }
	for range 60000 {
		k := all[s.below(len(all))]
		vars := counts[s.below(6)]
		if s.below(9) == 0 {
			vars = counts[s.below(len(counts))]
		}
		var l []api.Bound
		for range s.below(5) {
			l = append(l, api.Bound{A: term(), B: term()})
		}
		var values []uint64
		for range s.below(6) {
			values = append(values, numbers[s.below(len(numbers))])
		}
		k.is(t, "any numbers", vars, l)
		k.held(t, "any numbers", values, l, k.hold(values, l))
	}
}

func TestEveryCallEndsAtGreatLists(t *testing.T) {
	many := slices.Repeat(below(v(0), v(1)), 300000)
	values := make([]uint64, 1<<20)
	for _, k := range append(kinds(), nones()...) {
		for _, vars := range []int{math.MinInt, -1, 0, 2, 64, 65, math.MaxInt} {
			if e := bounds.Check(k.s, vars, many); e != api.ErrLimit {
				t.Errorf("%s: Check: %v", k.name, e)
			}
			k.told(t, "a great list", vars, many, nil, nil, api.ErrLimit)
		}
		k.held(t, "a great list", values, many, k.has(0))
		k.held(t, "a great list, no values", nil, many, false)
	}
}

// TestLongWaysEnd: bounds that stand in the worst order, and constants that let each variable grow many times.
func TestLongWaysEnd(t *testing.T) {
	k := labels("64 labels in a row", 64, rising)
	var l []api.Bound
	for i := range uint64(64) {
		l = append(l, api.Bound{A: v(63 - i), B: v((64 - i) % 64)}, api.Bound{A: c(i), B: v(i)})
	}
	most := slices.Repeat([]uint64{63}, 64)
	for _, l := range orders(l) {
		k.told(t, "a ring that grows", 64, l, most, most, api.OK)
	}
	k = sets("sets of 64", 64)
	l = l[:0]
	for i := range uint64(64) {
		l = append(l, api.Bound{A: v(63 - i), B: v((64 - i) % 64)}, api.Bound{A: c(1 << i), B: v(i)}, api.Bound{A: v(i), B: c(math.MaxUint64)})
	}
	most = slices.Repeat([]uint64{math.MaxUint64}, 64)
	for _, l := range orders(l) {
		k.told(t, "a ring that grows", 64, l, most, most, api.OK)
	}
}

// R4

// roomy: a list with spare room behind it, as whole (l and its room) and as l.
func roomy[T any](l []T, room int, spare T) (whole, part []T) {
	whole = slices.Clip(slices.Concat(l, slices.Repeat([]T{spare}, room)))
	return whole, whole[:len(l)]
}

// handed: variables and bounds that may be, with values and with none, and others.
func handed(k kind) (vars []int, lists [][]api.Bound) {
	s := source(29)
	for i := range 40 {
		n := i % 7
		vars, lists = append(vars, n), append(lists, nil)
		if len(k.few) > 0 {
			lists[i] = s.bounds(k, n, i/2, 5)
		}
	}
	vars = append(vars, 1, 2, -1, 65, 64)
	lists = append(lists, below(v(0), v(1)), below(c(math.MaxUint64), v(1)), below(v(0), v(0)), below(v(0), v(0)), slices.Repeat(below(v(0), v(0)), 257))
	return vars, lists
}

func TestWhatIsHandedInStaysAsItWas(t *testing.T) {
	spare := api.Bound{A: v(0), B: c(77)}
	for _, k := range append(kinds(), nones()...) {
		vars, lists := handed(k)
		for i, l := range lists {
			for _, room := range []int{0, 300} {
				whole, part := roomy(l, room, spare)
				values, few := roomy([]uint64{0, 1, 2, 3}, room, 99)
				was, wasValues := slices.Clone(whole), slices.Clone(values)
				k.is(t, "with room", vars[i], part)
				k.held(t, "with room", few, part, k.hold(few, l))
				if !slices.Equal(whole, was) || !slices.Equal(values, wasValues) {
					t.Fatalf("%s: %v of %v became %v of %v", k.name, was, wasValues, whole, values)
				}
			}
		}
	}
}

// TestSortsStayAsTheyWere: what they tell is told after all calls as it was.
func TestSortsStayAsTheyWere(t *testing.T) {
	for _, k := range append(kinds(), nones()...) {
		vars, lists := handed(k)
		for i, l := range lists {
			k.is(t, "some bounds", vars[i], l)
		}
		if k.s == nil {
			continue
		}
		some := append(slices.Clone(k.few), k.other...)
		for _, a := range some {
			if k.s.Has(a) != k.has(a) {
				t.Errorf("%s: Has(%d): %v", k.name, a, k.s.Has(a))
			}
			for _, b := range some {
				if k.s.Below(a, b) != k.below(a, b) {
					t.Errorf("%s: Below(%d, %d): %v", k.name, a, b, k.s.Below(a, b))
				}
			}
		}
	}
}

// TestSpareRoomIsNotRead: bounds of no values stand in it, and values that would hold.
func TestSpareRoomIsNotRead(t *testing.T) {
	k := three()
	for _, spare := range below(c(2), c(0), c(2), v(0), v(0), c(0), v(9), v(9), c(9), c(9)) {
		_, l := roomy(below(c(1), v(0), v(0), v(1)), 300, spare)
		k.told(t, "with room", 2, l, []uint64{1, 1}, []uint64{2, 2}, api.OK)
		k.held(t, "with room", []uint64{1, 2}, l, true)
		_, l = roomy([]api.Bound(nil), 300, spare)
		k.told(t, "room alone", 2, l, []uint64{0, 0}, []uint64{2, 2}, api.OK)
		k.held(t, "room alone", nil, l, true)
	}
	_, values := roomy([]uint64{0}, 5, 1)
	k.held(t, "values in the room", values, below(v(0), v(1)), false)
	_, values = roomy([]uint64(nil), 5, 1)
	k.held(t, "values in the room", values, below(v(0), v(0)), false)
}

func TestEmptyAndNilMeanTheSame(t *testing.T) {
	for _, k := range append(kinds(), nones()...) {
		for _, none := range [][]api.Bound{nil, {}, make([]api.Bound, 0, 5), below(v(0), v(0))[:0], below(v(9), v(9))[1:]} {
			for _, vars := range []int{-1, 0, 1, 64, 65} {
				k.is(t, "no bounds", vars, none)
			}
			for _, values := range [][]uint64{nil, {}, make([]uint64, 0, 5), {1, 2}} {
				k.held(t, "no bounds", values, none, true)
			}
		}
		for _, values := range [][]uint64{nil, {}, make([]uint64, 0, 5), make([]uint64, 2)[:0]} {
			k.held(t, "no values", values, below(v(0), v(0)), false)
			k.held(t, "no values, constants", values, below(c(0), c(0)), k.has(0))
		}
	}
}

// TestAnswersOwnTheirMemory: what is written into one answer, and behind it, is to be seen nowhere else.
func TestAnswersOwnTheirMemory(t *testing.T) {
	spoil := func(l []uint64) {
		l = l[:cap(l)]
		for i := range l {
			l[i] = 7777
		}
	}
	for _, k := range kinds() {
		vars, lists := handed(k)
		for i, l := range lists {
			was := slices.Clone(l)
			low, high, e := bounds.Solve(k.s, vars[i], l)
			lowAgain, highAgain, _ := bounds.Solve(k.s, vars[i], l)
			wantLow, wantHigh, want := k.solve(vars[i], l)
			spoil(low)
			if e != want || !slices.Equal(high, wantHigh) || !slices.Equal(lowAgain, wantLow) || !slices.Equal(highAgain, wantHigh) || !slices.Equal(l, was) {
				t.Fatalf("%s: the least ones share memory", k.name)
			}
			_ = append(lowAgain, 7777, 7777)
			spoil(high)
			if !slices.Equal(lowAgain, wantLow) || !slices.Equal(highAgain, wantHigh) || !slices.Equal(l, was) {
				t.Fatalf("%s: the greatest ones share memory", k.name)
			}
			spoil(lowAgain)
			if !slices.Equal(highAgain, wantHigh) {
				t.Fatalf("%s: both ends share memory", k.name)
			}
			k.told(t, "told again", vars[i], l, wantLow, wantHigh, want)
		}
	}
}

// TestNothingIsKept: what becomes of what was handed in changes no answer, earlier or later.
func TestNothingIsKept(t *testing.T) {
	k := diamond()
	l := below(c(1), v(0), v(0), v(1))
	low, high, _ := bounds.Solve(k.s, 2, l)
	l[0].A.N = 2
	l[1].B = c(2)
	if !slices.Equal(low, []uint64{1, 1}) || !slices.Equal(high, []uint64{3, 3}) {
		t.Errorf("answers became %v, %v", low, high)
	}
	k.told(t, "other bounds", 2, l, []uint64{2, 0}, []uint64{2, 3}, api.OK)
	values := []uint64{2, 0}
	k.held(t, "values", values, l, true)
	values[0] = 1
	k.held(t, "other values", values, l, false)
	l[0].A = c(4)
	k.told(t, "none of the sort", 2, l, nil, nil, api.ErrArg)
}

// R5

func TestAnswersHangOnArgumentsAlone(t *testing.T) {
	all := append(kinds(), nones()...)
	var done sync.WaitGroup
	for worker := range 8 {
		done.Go(func() {
			own := append(kinds(), nones()...)
			for i := range all {
				// Twice: of the same sort as others ask, and of an own one.
				for _, k := range []kind{all[(i+worker)%len(all)], own[i]} {
					vars, lists := handed(k)
					for j, l := range lists {
						wantLow, wantHigh, want := k.solve(vars[j], l)
						low, high, e := bounds.Solve(k.s, vars[j], l)
						if e != want || !slices.Equal(low, wantLow) || !slices.Equal(high, wantHigh) {
							t.Errorf("%s, beside others: Solve(%d: %v): %v, %v, %v", k.name, vars[j], l, low, high, e)
						}
						if bounds.Check(k.s, vars[j], l) != k.check(vars[j], l) || bounds.Hold(k.s, wantLow, l) != k.hold(wantLow, l) {
							t.Errorf("%s, beside others: Check or Hold(%d: %v)", k.name, vars[j], l)
						}
					}
				}
			}
		})
	}
	done.Wait()
}
