package reaches_test

import (
	"math"
	"slices"
	"strings"
	"sync"
	"testing"

	"cartouche/api"
	"cartouche/bounds"
	"cartouche/effects"
	"cartouche/lattices"
	"cartouche/reaches"
)

func v(n uint64) api.Term { return api.Term{Var: true, N: n} }
func c(n uint64) api.Term { return api.Term{N: n} }

// below: bounds, each of two terms that stand behind one another.
func below(terms ...api.Term) (l []api.Bound) {
	for i := 0; i < len(terms); i += 2 {
		l = append(l, api.Bound{A: terms[i], B: terms[i+1]})
	}
	return l
}

// chain: bounds that lead from each variable to the next one.
func chain(vars ...uint64) (l []api.Bound) {
	for i := range len(vars) - 1 {
		l = append(l, api.Bound{A: v(vars[i]), B: v(vars[i+1])})
	}
	return l
}

// rows: a list for each word, true where it has a 1.
func rows(text string) (all [][]bool) {
	for _, word := range strings.Fields(text) {
		var row []bool
		for _, digit := range word {
			row = append(row, digit == '1')
		}
		all = append(all, row)
	}
	return all
}

// written: lists as words, which rows reads.
func written(all [][]bool) string {
	var words []string
	for _, row := range all {
		word := ""
		for _, one := range row {
			word += map[bool]string{true: "1", false: "0"}[one]
		}
		words = append(words, word)
	}
	return strings.Join(words, " ")
}

// square: the lists of so many variables, of which that rule says whether the first one reaches the second one.
func square(vars int, rule func(a, b int) bool) [][]bool {
	all := make([][]bool, vars)
	for a := range all {
		for b := range vars {
			all[a] = append(all[a], rule(a, b))
		}
	}
	return all
}

func same(a, b int) bool { return a == b }

func equal(a, b [][]bool) bool { return slices.EqualFunc(a, b, slices.Equal) }

func copied(all [][]bool) (l [][]bool) {
	for _, row := range all {
		l = append(l, slices.Clone(row))
	}
	return l
}

// What the tests ask for is told variable by variable: from each one bounds are walked, as the chapter words it; the program fills all lists at once.

// of: what Of is to tell.
func of(vars int, l []api.Bound) ([][]bool, api.Errno) {
	if vars < 0 || vars > 64 || len(l) > 256 {
		return nil, api.ErrLimit
	}
	for _, bound := range l {
		for _, term := range []api.Term{bound.A, bound.B} {
			if term.Var && term.N >= uint64(vars) {
				return nil, api.ErrArg
			}
		}
	}
	reached := make([][]uint64, vars)
	for i := range reached {
		reached[i] = walked(uint64(i), l)
	}
	return square(vars, func(a, b int) bool { return slices.Contains(reached[a], uint64(b)) }), api.OK
}

// walked: the variables to which bounds between variables lead from one.
func walked(from uint64, l []api.Bound) []uint64 {
	to := []uint64{from}
	for i := 0; i < len(to); i++ {
		for _, bound := range l {
			if bound.A == v(to[i]) && bound.B.Var && !slices.Contains(to, bound.B.N) {
				to = append(to, bound.B.N)
			}
		}
	}
	return to
}

// told holds Of against what is written there.
func told(t *testing.T, name string, vars int, l []api.Bound, want [][]bool, e api.Errno) {
	t.Helper()
	got, gotE := reaches.Of(vars, l)
	if gotE != e || !equal(got, want) {
		t.Fatalf("%s: Of(%d: %v): %s, %v, want %s, %v", name, vars, l, written(got), gotE, written(want), e)
	}
}

// is holds Of against what it is to tell.
func is(t *testing.T, name string, vars int, l []api.Bound) ([][]bool, api.Errno) {
	t.Helper()
	want, e := of(vars, l)
	told(t, name, vars, l, want, e)
	return want, e
}

// A source tells numbers with no rule to be seen in them, the same ones each time.
type source uint64

// below: the next one, below n.
func (s *source) below(n int) int {
	*s = *s*6364136223846793005 + 1442695040888963407
	return int(*s >> 33 % source(n))
}

// shuffled: the same items, in another order.
func shuffled[T any](s *source, l []T) []T {
	l = slices.Clone(l)
	for i := range l {
		j := i + s.below(len(l)-i)
		l[i], l[j] = l[j], l[i]
	}
	return l
}

// orders: bounds as they are, from behind, and in some other orders.
func orders(l []api.Bound) [][]api.Bound {
	s := source(3)
	back := slices.Clone(l)
	slices.Reverse(back)
	all := [][]api.Bound{l, back}
	for range 6 {
		all = append(all, shuffled(&s, l))
	}
	return all
}

// bounds: some that may be, of so many variables, of which one in so many terms is a constant.
func (s *source) bounds(vars, n, constants int) (l []api.Bound) {
	for range n {
		var two [2]api.Term
		for i := range two {
			two[i] = c(uint64(s.below(70)))
			if vars > 0 && s.below(constants) > 0 {
				two[i] = v(uint64(s.below(vars)))
			}
		}
		l = append(l, api.Bound{A: two[0], B: two[1]})
	}
	return l
}

// The chapter's examples.

func TestExamples(t *testing.T) {
	told(t, "example", 3, below(v(0), v(1), v(1), v(2)), rows("111 011 001"), api.OK)
	told(t, "example", 2, below(v(0), c(5), c(5), v(1)), rows("10 01"), api.OK)
	told(t, "example", 1, below(v(0), v(1)), nil, api.ErrArg)
	told(t, "example", -1, nil, nil, api.ErrLimit)
}

// P11.1

func TestHowManyVariablesThereAre(t *testing.T) {
	for _, vars := range []int{math.MinInt, math.MinInt + 1, math.MinInt + 64, math.MinInt32, -256, -65, -64, -2, -1, 65, 66, 127, 128, 256, 1 << 32, 1<<32 + 1, math.MaxInt - 1, math.MaxInt} {
		told(t, "too many, or too few", vars, nil, nil, api.ErrLimit)
		told(t, "too many, or too few, a bound", vars, below(v(0), v(0)), nil, api.ErrLimit)
	}
	for vars := range 65 {
		told(t, "no bounds", vars, nil, square(vars, same), api.OK)
	}
}

func TestHowManyBoundsThereAre(t *testing.T) {
	want := square(64, func(a, b int) bool { return a == b || a == 0 && b == 63 })
	for _, all := range [][]api.Bound{slices.Repeat(below(v(0), v(63)), 400), slices.Repeat(below(v(0), v(63), c(1), v(0)), 200)} {
		told(t, "no bounds", 64, all[:0], square(64, same), api.OK)
		for _, n := range []int{1, 2, 63, 64, 65, 254, 255, 256} {
			told(t, "many bounds", 64, all[:n], want, api.OK)
		}
		for _, n := range []int{257, 258, 320, 400} {
			told(t, "too many bounds", 64, all[:n], nil, api.ErrLimit)
		}
	}
	for n, want := range map[int]api.Errno{0: api.OK, 256: api.OK, 257: api.ErrLimit} {
		told(t, "constants alone", 0, slices.Repeat(below(c(1), c(2)), n), nil, want)
	}
}

// TestTheLastBoundCounts: of as many as there may be.
func TestTheLastBoundCounts(t *testing.T) {
	l := slices.Repeat(below(v(2), c(9)), 256)
	for at := range l {
		one := slices.Clone(l)
		one[at] = below(v(2), v(1))[0]
		told(t, "one among many", 3, one, rows("100 010 011"), api.OK)
		one[at] = below(v(2), v(3))[0]
		told(t, "one among many, that may not be", 3, one, nil, api.ErrArg)
	}
}

// TestVariablesThatThereAreNot: one among bounds that may be, first and second, beside each other term, in each place.
func TestVariablesThatThereAreNot(t *testing.T) {
	for _, vars := range []int{0, 1, 2, 3, 62, 63, 64} {
		good := []api.Term{c(0), c(uint64(vars)), c(math.MaxUint64)}
		if vars > 0 {
			good = append(good, v(0), v(uint64(vars-1)))
		}
		for _, n := range []uint64{uint64(vars), uint64(vars) + 1, 64, 65, 127, 128, 256, 1 << 31, 1 << 32, 1<<32 + 1, 1 << 63, 1<<63 + 1, math.MaxInt64, math.MaxUint64} {
			for _, beside := range append(slices.Clone(good), v(n), v(math.MaxUint64)) {
				for _, bound := range below(v(n), beside, beside, v(n)) {
					told(t, "it alone", vars, []api.Bound{bound}, nil, api.ErrArg)
					l := slices.Repeat(below(good[len(good)-1], good[0]), 3)
					is(t, "bounds that may be", vars, l)
					for at := range len(l) + 1 {
						told(t, "a variable that there is not", vars, slices.Insert(slices.Clone(l), at, bound), nil, api.ErrArg)
					}
				}
			}
		}
	}
}

// TestEachVariableMayStand: and each number one above them all may not.
func TestEachVariableMayStand(t *testing.T) {
	for vars := range 65 {
		for i := range uint64(vars) {
			for _, bound := range below(v(i), v(i), v(i), c(0), c(0), v(i)) {
				told(t, "a variable that there is", vars, []api.Bound{bound}, square(vars, same), api.OK)
			}
		}
		for _, bound := range below(v(uint64(vars)), c(0), c(0), v(uint64(vars)), v(uint64(vars)), v(uint64(vars))) {
			told(t, "one above", vars, []api.Bound{bound}, nil, api.ErrArg)
		}
	}
}

func TestLimitIsToldFirst(t *testing.T) {
	for _, bad := range [][]api.Bound{below(v(70), c(0)), below(c(0), v(1<<40)), below(v(math.MaxUint64), v(64))} {
		for _, vars := range []int{math.MinInt, -1, 65, math.MaxInt} {
			told(t, "variables, and a number", vars, bad, nil, api.ErrLimit)
			told(t, "variables, bounds, and a number", vars, slices.Repeat(bad, 257), nil, api.ErrLimit)
		}
		for _, vars := range []int{0, 1, 64} {
			told(t, "a number", vars, bad, nil, api.ErrArg)
			told(t, "as many bounds as may be, and a number", vars, slices.Repeat(bad, 256), nil, api.ErrArg)
			told(t, "bounds, and a number", vars, slices.Repeat(bad, 257), nil, api.ErrLimit)
			told(t, "bounds, and a number in the first one", vars, append(slices.Clone(bad), slices.Repeat(below(c(0), c(0)), 256)...), nil, api.ErrLimit)
			told(t, "bounds, and a number in the last one", vars, append(slices.Repeat(below(c(0), c(0)), 256), bad...), nil, api.ErrLimit)
		}
	}
}

func TestWrittenBounds(t *testing.T) {
	for _, r := range []struct {
		name string
		vars int
		l    []api.Bound
		want string
	}{
		{"none", 0, nil, ""},
		{"one variable", 1, nil, "1"},
		{"no bounds", 3, nil, "100 010 001"},
		{"two constants, no variables", 0, below(c(3), c(1)), ""},
		{"two constants", 2, below(c(0), c(1)), "10 01"},
		{"one constant twice", 2, below(c(0), c(0)), "10 01"},
		{"a constant below a variable", 2, below(c(1), v(0)), "10 01"},
		{"a constant below a variable of its number", 2, below(c(1), v(1)), "10 01"},
		{"a variable below a constant", 2, below(v(0), c(1)), "10 01"},
		{"a variable below a constant of its number", 2, below(v(1), c(1)), "10 01"},
		{"two variables", 2, below(v(0), v(1)), "11 01"},
		{"two variables, the other way round", 2, below(v(1), v(0)), "10 11"},
		{"two variables, both ways", 2, below(v(1), v(0), v(0), v(1)), "11 11"},
		{"a variable and itself", 2, below(v(1), v(1)), "10 01"},
		{"a variable without bounds", 3, below(v(0), v(2)), "101 010 001"},
		{"over one", 3, chain(0, 1, 2), "111 011 001"},
		{"over one, falling", 3, chain(2, 1, 0), "100 110 111"},
		{"over a greater one", 3, chain(0, 2, 1), "111 010 011"},
		{"over a less one", 3, chain(1, 0, 2), "101 111 001"},
		{"over two", 4, chain(3, 1, 0, 2), "1010 1110 0010 1111"},
		{"over two, a greater one first", 4, chain(0, 3, 2, 1), "1111 0100 0110 0111"},
		{"over two, of five", 5, chain(4, 0, 3, 1), "11010 01000 00100 01010 11011"},
		{"a ring", 3, chain(0, 1, 2, 0), "111 111 111"},
		{"a ring, the other way round", 3, chain(0, 2, 1, 0), "111 111 111"},
		{"a ring and one beside it", 4, chain(0, 2, 3, 0), "1011 0100 1011 1011"},
		{"one that leads to a ring", 3, append(chain(0, 1, 0), chain(2, 0)...), "110 110 111"},
		{"a ring that leads to one", 3, append(chain(0, 1, 0), chain(0, 2)...), "111 111 001"},
		{"two rings, one below", 4, append(chain(0, 1, 0), chain(1, 3, 2, 3)...), "1111 1111 0011 0011"},
		{"two that lead to a third one", 3, below(v(0), v(2), v(1), v(2)), "101 011 001"},
		{"one that leads to two", 3, below(v(0), v(1), v(0), v(2)), "111 010 001"},
		{"two that lead to one, which leads to two", 5, below(v(0), v(2), v(1), v(2), v(2), v(3), v(2), v(4)), "10111 01111 00111 00010 00001"},
		{"two ways to one", 4, below(v(0), v(1), v(0), v(2), v(1), v(3), v(2), v(3)), "1111 0101 0011 0001"},
		{"two chains", 4, append(chain(0, 2), chain(3, 1)...), "1010 0100 0010 0101"},
		{"over a constant", 2, below(v(0), c(5), c(5), v(1)), "10 01"},
		{"over a constant, the other way round", 2, below(c(5), v(1), v(0), c(5)), "10 01"},
		{"over two constants", 2, below(v(0), c(5), c(5), c(6), c(6), v(1)), "10 01"},
		{"over a constant of a variable's number", 3, below(v(0), c(1), c(1), v(2)), "100 010 001"},
		{"to a constant, from a variable of its number", 3, below(v(0), c(1), v(1), v(2)), "100 011 001"},
		{"to a variable, from a constant of its number", 3, below(v(0), v(1), c(1), v(2)), "110 010 001"},
		{"over a variable and a constant", 3, below(v(0), v(1), v(1), c(2), c(2), v(2)), "110 010 001"},
		{"over a constant and a variable", 3, below(v(0), c(2), c(2), v(1), v(1), v(2)), "100 011 001"},
		{"over a constant, and beside it", 3, below(v(0), c(5), c(5), v(2), v(0), v(1), v(1), v(2)), "111 011 001"},
		{"of one constant to two", 2, below(c(5), v(0), c(5), v(1)), "10 01"},
		{"of two to one constant", 2, below(v(0), c(5), v(1), c(5)), "10 01"},
		{"the same constant above and below", 2, below(c(5), v(0), v(0), c(5), c(5), v(1), v(1), c(5)), "10 01"},
		{"bounds of no values", 2, below(c(2), v(0), v(0), v(1), v(1), c(1)), "11 01"},
		{"a bound twice", 2, below(v(0), v(1), v(0), v(1)), "11 01"},
	} {
		for _, l := range orders(r.l) {
			told(t, r.name, r.vars, l, rows(r.want), api.OK)
			is(t, r.name, r.vars, l)
		}
	}
}

// TestOneBound: of each two variables, and of constants of their numbers.
func TestOneBound(t *testing.T) {
	for _, vars := range []int{1, 2, 7, 64} {
		alone := square(vars, same)
		for a := range vars {
			for b := range vars {
				want := copied(alone)
				want[a][b] = true
				told(t, "two variables", vars, below(v(uint64(a)), v(uint64(b))), want, api.OK)
				told(t, "a variable and a constant", vars, below(v(uint64(a)), c(uint64(b))), alone, api.OK)
				told(t, "a constant and a variable", vars, below(c(uint64(a)), v(uint64(b))), alone, api.OK)
				told(t, "two constants", vars, below(c(uint64(a)), c(uint64(b))), alone, api.OK)
			}
		}
	}
}

// TestConstantsLeadNowhere: whatever they are, alone and between variables.
func TestConstantsLeadNowhere(t *testing.T) {
	for _, n := range []uint64{0, 1, 2, 3, 62, 63, 64, 65, 255, 256, 1 << 31, 1 << 32, 1 << 62, 1 << 63, 1<<63 + 1, math.MaxInt64, math.MaxUint64} {
		for _, m := range []uint64{0, n, math.MaxUint64} {
			told(t, "constants alone", 0, below(c(n), c(m)), nil, api.OK)
			for _, vars := range []int{2, 3, 64} {
				for _, l := range [][]api.Bound{below(c(n), c(m)), below(v(0), c(n)), below(c(n), v(1)), below(v(0), c(n), c(n), v(1)), below(v(0), c(n), c(n), c(m), c(m), v(1)), below(v(0), c(n), c(n), v(0))} {
					told(t, "a constant", vars, l, square(vars, same), api.OK)
				}
			}
		}
	}
}

// TestChains: over as many as there are, through all variables in whatever order.
func TestChains(t *testing.T) {
	s := source(7)
	for _, vars := range []int{1, 2, 3, 4, 5, 8, 17, 32, 33, 63, 64} {
		var way []uint64
		for i := range uint64(vars) {
			way = append(way, i)
		}
		back := slices.Clone(way)
		slices.Reverse(back)
		for _, way := range [][]uint64{way, back, shuffled(&s, way), shuffled(&s, way), shuffled(&s, way)} {
			at := func(a int) int { return slices.Index(way, uint64(a)) }
			want := square(vars, func(a, b int) bool { return at(a) <= at(b) })
			for _, l := range orders(chain(way...)) {
				told(t, "a chain", vars, l, want, api.OK)
			}
			ring := square(vars, func(a, b int) bool { return true })
			for _, l := range orders(chain(append(slices.Clone(way), way[0])...)) {
				told(t, "a ring", vars, l, ring, api.OK)
			}
			cut := chain(way...)
			for i := range cut {
				one := slices.Clone(cut)
				one[i] = below(one[i].A, c(way[i]))[0]
				is(t, "a chain that ends at a constant, and goes on", vars, append(one, below(c(way[i]), cut[i].B)...))
			}
		}
	}
}

// TestAChainOverEach: from one variable to another one, over each third one.
func TestAChainOverEach(t *testing.T) {
	for _, vars := range []int{3, 5, 64} {
		for midst := range vars {
			for _, ends := range [][2]int{{0, vars - 1}, {vars - 1, 0}, {1, vars / 2}, {vars / 2, 1}} {
				a, b := ends[0], ends[1]
				want := square(vars, func(i, j int) bool { return i == j || i == a && (j == midst || j == b) || i == midst && j == b })
				for _, l := range orders(chain(uint64(a), uint64(midst), uint64(b))) {
					told(t, "over one", vars, l, want, api.OK)
				}
			}
		}
	}
}

// TestManyToOneAndOneToMany: a third one with all others below it, above it, and both.
func TestManyToOneAndOneToMany(t *testing.T) {
	for _, vars := range []int{2, 3, 9, 64} {
		for hub := range vars {
			var up, down []api.Bound
			for i := range vars {
				up = append(up, below(v(uint64(i)), v(uint64(hub)))...)
				down = append(down, below(v(uint64(hub)), v(uint64(i)))...)
			}
			told(t, "all lead to one", vars, up, square(vars, func(a, b int) bool { return a == b || b == hub }), api.OK)
			told(t, "one leads to all", vars, down, square(vars, func(a, b int) bool { return a == b || a == hub }), api.OK)
			for _, l := range orders(slices.Concat(up, down)) {
				told(t, "all lead to all", vars, l, square(vars, func(a, b int) bool { return true }), api.OK)
			}
		}
	}
}

func TestABoundThatStandsTwice(t *testing.T) {
	s := source(11)
	for range 300 {
		vars := 1 + s.below(9)
		l := s.bounds(vars, 1+s.below(12), 5)
		want, _ := is(t, "once", vars, l)
		told(t, "twice", vars, slices.Concat(l, l), want, api.OK)
		told(t, "one of them twice", vars, append(slices.Clone(l), l[s.below(len(l))]), want, api.OK)
		told(t, "one of them twice, the first one", vars, append(slices.Clone(l[len(l)-1:]), l...), want, api.OK)
	}
}

// TestOneBoundMore: who reaches its first term reaches all that its second one reaches; else nothing is other.
func TestOneBoundMore(t *testing.T) {
	s := source(13)
	other := 0
	for range 600 {
		vars := 1 + s.below(12)
		l := s.bounds(vars, s.below(12), 6)
		was, _ := is(t, "some bounds", vars, l)
		a, b := s.below(vars), s.below(vars)
		want := square(vars, func(i, j int) bool { return was[i][j] || was[i][a] && was[b][j] })
		if !equal(was, want) {
			other++
		}
		for at := range len(l) + 1 {
			told(t, "one more", vars, slices.Insert(slices.Clone(l), at, below(v(uint64(a)), v(uint64(b)))...), want, api.OK)
			told(t, "one more, of a constant", vars, slices.Insert(slices.Clone(l), at, below(v(uint64(a)), c(uint64(b)))...), was, api.OK)
			told(t, "one more, of a constant", vars, slices.Insert(slices.Clone(l), at, below(c(uint64(a)), v(uint64(b)))...), was, api.OK)
		}
	}
	if other < 200 {
		t.Errorf("one bound more made just %d other", other)
	}
}

// TestMoreVariables: those that no bound names change nothing of the others.
func TestMoreVariables(t *testing.T) {
	s := source(17)
	for range 200 {
		vars := 1 + s.below(20)
		l := s.bounds(vars, s.below(30), 6)
		was, _ := is(t, "some variables", vars, l)
		for _, more := range []int{vars + 1, 40, 64} {
			told(t, "more variables", more, l, square(more, func(a, b int) bool { return a == b || a < vars && b < vars && was[a][b] }), api.OK)
		}
	}
}

func TestAnyBounds(t *testing.T) {
	s := source(19)
	for _, vars := range []int{1, 2, 3, 4, 5, 7, 12, 20, 40, 63, 64} {
		for range 150 {
			n := s.below(min(256, 3*vars) + 1)
			is(t, "any bounds", vars, s.bounds(vars, n, 3+s.below(20)))
		}
	}
	for _, vars := range []int{16, 63, 64} {
		is(t, "as many as may be", vars, s.bounds(vars, 256, 1000))
		is(t, "as many as may be", vars, s.bounds(vars, 256, 2))
	}
}

// P11.2

// TestEachReachesItselfAndLeadsOn: asked of the answers alone.
func TestEachReachesItselfAndLeadsOn(t *testing.T) {
	s := source(23)
	over := 0
	for range 800 {
		vars := s.below(65)
		l := s.bounds(vars, s.below(min(256, 2*vars)+1), 8)
		all, e := reaches.Of(vars, l)
		if e != api.OK || len(all) != vars {
			t.Fatalf("Of(%d: %v): %v, %v", vars, l, all, e)
		}
		for a, row := range all {
			if len(row) != vars || !row[a] {
				t.Fatalf("Of(%d: %v): %d does not reach itself, or has %d in its list", vars, l, a, len(row))
			}
			for b, its := range row {
				for d, on := range all[b] {
					if its && on && !row[d] {
						t.Fatalf("Of(%d: %v): %d reaches %d, that %d, it not", vars, l, a, b, d)
					}
					if its && on && a != b && b != d && a != d {
						over++
					}
				}
			}
		}
		for _, bound := range l {
			if bound.A.Var && bound.B.Var && !all[bound.A.N][bound.B.N] {
				t.Fatalf("Of(%d: %v): not %v", vars, l, bound)
			}
		}
	}
	if over < 1000 {
		t.Errorf("just %d ways over another one", over)
	}
}

// A kind is a sort, and all its values.
type kind struct {
	name   string
	s      bounds.Sort
	values []uint64
}

func labels(name string, rows ...uint64) kind {
	l, e := lattices.New(rows)
	if e != api.OK {
		panic(name)
	}
	k := kind{name: name, s: l}
	for i := range rows {
		k.values = append(k.values, uint64(i))
	}
	return k
}

func sets(name string, n int) kind {
	x, e := effects.New(n)
	if e != api.OK {
		panic(name)
	}
	k := kind{name: name, s: x}
	for a := range uint64(1) << n {
		k.values = append(k.values, a)
	}
	return k
}

func kinds() []kind {
	return []kind{labels("one label", 1), labels("two labels", 3, 2), labels("two labels, falling", 1, 3), labels("three labels in a row", 7, 6, 4), labels("a diamond", 15, 10, 12, 8), labels("a pentagon", 31, 18, 28, 24, 16), sets("sets of none", 0), sets("sets of one", 1), sets("sets of two", 2)}
}

// valued: all lists of so many of these values.
func valued(values []uint64, n int) [][]uint64 {
	all := [][]uint64{nil}
	for range n {
		var more [][]uint64
		for _, l := range all {
			for _, a := range values {
				more = append(more, append(slices.Clone(l), a))
			}
		}
		all = more
	}
	return all
}

// follows: of all values that hold of bounds, each variable's is below those of all that it reaches; it tells how many hold, and which two have their values so in all of them.
func (k kind) follows(t *testing.T, vars int, l []api.Bound, all [][]uint64) (many int, always [][]bool) {
	t.Helper()
	reached, e := reaches.Of(vars, l)
	if e != api.OK {
		t.Fatalf("%s: Of(%d: %v): %v", k.name, vars, l, e)
	}
	always = square(vars, func(a, b int) bool { return true })
	for _, values := range all {
		if !bounds.Hold(k.s, values, l) {
			continue
		}
		many++
		for a := range vars {
			for b := range vars {
				under := k.s.Below(values[a], values[b])
				if reached[a][b] && !under {
					t.Fatalf("%s: %v hold of %v; %d is told to reach %d", k.name, values, l, a, b)
				}
				always[a][b] = always[a][b] && under
			}
		}
	}
	return many, always
}

// TestAllValues: of few variables and values, all that hold.
func TestAllValues(t *testing.T) {
	held := 0
	for i, k := range kinds() {
		for vars := range 5 {
			all := valued(k.values, vars)
			s := source(29 + i)
			for range 150 {
				l := s.bounds(vars, s.below(2*vars+1), 5)
				for j := range l {
					for _, term := range []*api.Term{&l[j].A, &l[j].B} {
						if !term.Var {
							term.N %= uint64(len(k.values))
						}
					}
				}
				many, _ := k.follows(t, vars, l, all)
				held += many
			}
		}
	}
	if held < 50000 {
		t.Errorf("just %d values held", held)
	}
}

// TestJustThoseThatAreReachedAreAlwaysAbove: of bounds between variables alone, and a sort of two values at least.
func TestJustThoseThatAreReachedAreAlwaysAbove(t *testing.T) {
	for i, k := range kinds() {
		if len(k.values) < 2 {
			continue
		}
		for vars := range 5 {
			all := valued(k.values, vars)
			s := source(41 + i)
			for range 40 {
				l := s.bounds(vars, s.below(2*vars+1)*min(vars, 1), math.MaxInt32)
				l = slices.DeleteFunc(l, func(bound api.Bound) bool { return !bound.A.Var || !bound.B.Var })
				_, always := k.follows(t, vars, l, all)
				told(t, k.name, vars, l, always, api.OK)
			}
		}
	}
}

// TestAllListsOfFewBounds: all lists of up to three bounds of three variables and a constant.
func TestAllListsOfFewBounds(t *testing.T) {
	k := labels("two labels", 3, 2)
	all := valued(k.values, 3)
	terms := []api.Term{v(0), v(1), v(2), c(1)}
	var one []api.Bound
	for _, a := range terms {
		for _, b := range terms {
			one = append(one, api.Bound{A: a, B: b})
		}
	}
	lists := [][]api.Bound{nil}
	for range 4 {
		var more [][]api.Bound
		for _, l := range lists {
			is(t, "few bounds", 3, l)
			k.follows(t, 3, l, all)
			for _, bound := range one {
				more = append(more, append(slices.Clone(l), bound))
			}
		}
		lists = more
	}
}

// R1, R2

// TestEveryCallEndsAtAnyBounds: whatever numbers stand in them.
func TestEveryCallEndsAtAnyBounds(t *testing.T) {
	s := source(53)
	numbers := []uint64{0, 0, 1, 2, 3, 4, 62, 63, 64, 65, 255, 256, 1 << 31, 1 << 32, 1 << 62, 1 << 63, math.MaxInt64, math.MaxUint64}
	counts := []int{0, 1, 2, 3, 4, 5, 63, 64, 65, -1, 256, 257, 1 << 32, math.MinInt, math.MaxInt}
	term := func() api.Term { return api.Term{Var: s.below(2) == 0, N: numbers[s.below(5)*s.below(5)]} }
	ended := map[api.Errno]int{}
	for range 60000 {
		vars := counts[s.below(8)]
		if s.below(9) == 0 {
			vars = counts[s.below(len(counts))]
		}
		var l []api.Bound
		for range s.below(6) {
			l = append(l, api.Bound{A: term(), B: term()})
		}
		_, e := is(t, "any numbers", vars, l)
		ended[e]++
	}
	if ended[api.OK] < 1000 || ended[api.ErrArg] < 1000 || ended[api.ErrLimit] < 1000 {
		t.Errorf("how calls ended: %v", ended)
	}
}

func TestEveryCallEndsAtGreatLists(t *testing.T) {
	for _, many := range [][]api.Bound{slices.Repeat(below(v(0), v(1)), 1<<20), make([]api.Bound, 1<<20), slices.Repeat(below(v(math.MaxUint64), v(1)), 1<<20)} {
		for _, vars := range []int{math.MinInt, -1, 0, 2, 64, 65, math.MaxInt} {
			told(t, "a great list", vars, many, nil, api.ErrLimit)
		}
	}
}

// TestAnErrorTellsNothingElse: no list stands beside it, not even an empty one with room.
func TestAnErrorTellsNothingElse(t *testing.T) {
	for _, r := range []struct {
		vars int
		l    []api.Bound
	}{{-1, nil}, {65, nil}, {64, slices.Repeat(below(v(0), v(1)), 257)}, {2, below(v(0), v(1), v(1), v(2))}, {0, below(v(0), v(0))}} {
		all, e := reaches.Of(r.vars, r.l)
		if e == api.OK || len(all) != 0 || cap(all) != 0 {
			t.Errorf("Of(%d): %v, %v", r.vars, all, e)
		}
	}
}

// R4

// roomy: a list with spare room behind it, as whole (l and its room) and as l.
func roomy(l []api.Bound, room int, spare api.Bound) (whole, part []api.Bound) {
	whole = slices.Clip(slices.Concat(l, slices.Repeat([]api.Bound{spare}, room)))
	return whole, whole[:len(l)]
}

// handed: variables and bounds that may be, and others.
func handed() (vars []int, lists [][]api.Bound) {
	s := source(59)
	for i := range 60 {
		n := i % 9
		vars, lists = append(vars, n), append(lists, s.bounds(n, i/2, 5))
	}
	vars = append(vars, 64, 64, 1, 2, -1, 65, 64)
	lists = append(lists, s.bounds(64, 200, 9), s.bounds(64, 256, 9), below(v(0), v(1)), below(c(9), v(2)), below(v(0), v(0)), below(v(0), v(0)), slices.Repeat(below(v(0), v(0)), 257))
	return vars, lists
}

func TestWhatIsHandedInStaysAsItWas(t *testing.T) {
	vars, lists := handed()
	for i, l := range lists {
		for _, room := range []int{0, 1, 300} {
			whole, part := roomy(l, room, api.Bound{A: v(0), B: c(77)})
			was := slices.Clone(whole)
			is(t, "with room", vars[i], part)
			if !slices.Equal(whole, was) {
				t.Fatalf("%v became %v", was, whole)
			}
		}
	}
}

// TestSpareRoomIsNotRead: bounds that would lead on, or that may not be, stand in it.
func TestSpareRoomIsNotRead(t *testing.T) {
	for _, spare := range below(v(1), v(2), v(2), v(0), v(9), v(9), c(9), v(3), v(math.MaxUint64), c(0)) {
		for _, room := range []int{1, 300} {
			_, l := roomy(below(v(0), v(1)), room, spare)
			told(t, "with room", 3, l, rows("110 010 001"), api.OK)
			_, l = roomy(nil, room, spare)
			told(t, "room alone", 3, l, rows("100 010 001"), api.OK)
		}
	}
}

func TestEmptyAndNilMeanTheSame(t *testing.T) {
	for _, none := range [][]api.Bound{nil, {}, make([]api.Bound, 0, 5), below(v(0), v(1))[:0], below(v(9), v(9))[1:]} {
		for vars := range 65 {
			told(t, "no bounds", vars, none, square(vars, same), api.OK)
		}
		for _, vars := range []int{math.MinInt, -1, 65, math.MaxInt} {
			told(t, "no bounds", vars, none, nil, api.ErrLimit)
		}
	}
	all, e := reaches.Of(0, below(c(1), c(2)))
	if e != api.OK || len(all) != 0 {
		t.Errorf("no variables: %v, %v", all, e)
	}
}

// spoil writes into a list, and into the room behind it.
func spoil(l []bool) {
	l = l[:cap(l)]
	for i := range l {
		l[i] = !l[i]
	}
}

// TestAnswersOwnTheirMemory: what is written into one list of an answer, and behind it, is to be seen nowhere else.
func TestAnswersOwnTheirMemory(t *testing.T) {
	vars, lists := handed()
	for i, l := range lists {
		was := slices.Clone(l)
		want, e := of(vars[i], l)
		one, _ := reaches.Of(vars[i], l)
		other, _ := reaches.Of(vars[i], l)
		left := copied(want)
		for j := range one {
			spoil(one[j])
			for at := range left[j] {
				left[j][at] = !left[j][at]
			}
			if !equal(one, left) {
				t.Fatalf("Of(%d: %v): list %d shares memory with another one", vars[i], l, j)
			}
			if !equal(other, want) || !slices.Equal(l, was) {
				t.Fatalf("Of(%d: %v): list %d shares memory with another answer, or with the bounds", vars[i], l, j)
			}
			told(t, "told again", vars[i], l, want, e)
		}
		outer := one[:cap(one)]
		for j := range outer {
			outer[j] = nil
		}
		if !equal(other, want) {
			t.Fatalf("Of(%d: %v): two answers share their lists", vars[i], l)
		}
		for j := range other {
			_ = append(other[j], true, true)
		}
		if !equal(other, want) {
			t.Fatalf("Of(%d: %v): behind a list stands another one", vars[i], l)
		}
		told(t, "told again", vars[i], l, want, e)
	}
}

// TestNothingIsKept: what becomes of what was handed in changes no answer, earlier or later.
func TestNothingIsKept(t *testing.T) {
	l := below(v(0), v(1), v(1), v(2))
	all, _ := reaches.Of(3, l)
	l[0] = below(v(2), v(0))[0]
	l[1].B = c(2)
	if !equal(all, rows("111 011 001")) {
		t.Errorf("an answer became %s", written(all))
	}
	told(t, "other bounds", 3, l, rows("100 010 101"), api.OK)
	l[1].B = v(3)
	told(t, "a variable that there is not", 3, l, nil, api.ErrArg)
	l[1].B = v(0)
	told(t, "bounds that may be again", 3, l, rows("100 110 101"), api.OK)
}

// R5

// TestAnswersHangOnArgumentsAlone: of one call behind another one, and beside others.
func TestAnswersHangOnArgumentsAlone(t *testing.T) {
	vars, lists := handed()
	var done sync.WaitGroup
	for worker := range 8 {
		done.Go(func() {
			for i := range 4 * len(lists) {
				j := (i*(2*worker+1) + worker) % len(lists)
				want, e := of(vars[j], lists[j])
				got, gotE := reaches.Of(vars[j], lists[j])
				if gotE != e || !equal(got, want) {
					t.Errorf("beside others: Of(%d: %v): %s, %v", vars[j], lists[j], written(got), gotE)
				}
			}
		})
	}
	done.Wait()
}
