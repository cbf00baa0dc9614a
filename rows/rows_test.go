package rows_test

import (
	"math"
	"slices"
	"strconv"
	"sync"
	"testing"

	"cartouche/api"
	"cartouche/bounds"
	"cartouche/effects"
	"cartouche/lattices"
	"cartouche/rows"
	"cartouche/senses"
	"cartouche/spots"
)

// A sort is one that is handed in, and what the tests know of it by themselves.
type sort struct {
	name  string
	s     bounds.Sort
	few   []uint64 // some of its values, of a small one all; none, if it has none
	other []uint64 // some that are none of its values
	has   func(a uint64) bool
	leq   func(a, b uint64) bool // of its values
}

// below: what the sort is to tell, of whatever numbers.
func (k sort) below(a, b uint64) bool { return k.has(a) && k.has(b) && k.leq(a, b) }

func within(a, b uint64) bool { return a&^b == 0 }

// labels: the sort of them, whose values are 0 to n-1.
func labels(name string, n int, leq func(a, b uint64) bool) sort {
	rows := make([]uint64, n)
	for i := range rows {
		for j := range n {
			if leq(uint64(i), uint64(j)) {
				rows[i] |= 1 << j
			}
		}
	}
	l, e := lattices.New(rows)
	if e != api.OK {
		panic(name)
	}
	k := sort{name: name, s: l, leq: leq, has: func(a uint64) bool { return a < uint64(n) }, few: values(min(n, 4), 0)}
	if n > 4 {
		k.few = []uint64{0, uint64(n) - 1, uint64(n) / 2, 1}
	}
	k.other = []uint64{uint64(n), uint64(n) + 1, 1 << 32, 1 << 63, math.MaxUint64}
	return k
}

// sets: those of so many effects.
func sets(name string, n int) sort {
	all := uint64(1)<<n - 1
	x, e := effects.New(n)
	if e != api.OK {
		panic(name)
	}
	k := sort{name: name, s: x, leq: within, has: func(a uint64) bool { return a&^all == 0 }}
	if n <= 2 {
		k.few = values(1<<n, 0)
	} else {
		k.few = []uint64{0, all, all & 0x5555555555555555, all &^ 1}
	}
	if n < 64 {
		k.other = []uint64{1 << n, 1<<n | all, 1 << 63, math.MaxUint64}
	}
	return k
}

func chain(name string, n int) sort {
	return labels(name, n, func(a, b uint64) bool { return a <= b })
}

// diamond: labels 0, then 1 and 2 that are not below one another, then 3.
func diamond() sort { return labels("a diamond", 4, within) }

// fours: sorts whose values are 0 to 3, and below one another as the sets of two things are.
func fours() []sort { return []sort{diamond(), sets("two effects", 2)} }

// nothing: sorts that have no values: none that is there, or that a call made.
func nothing() (all []sort) {
	never := func(uint64) bool { return false }
	for _, s := range []bounds.Sort{nil, (*lattices.Lattice)(nil), (*effects.Effects)(nil), new(lattices.Lattice), new(effects.Effects)} {
		all = append(all, sort{name: "nothing", s: s, other: []uint64{0, 1, 2, 3, 64, math.MaxUint64}, has: never, leq: func(a, b uint64) bool { return false }})
	}
	return all
}

func sorts() []sort {
	turned := func(a, b uint64) bool { return a >= b }
	return append(append(fours(), nothing()...),
		chain("one label", 1), chain("two labels", 2), chain("64 labels", 64), labels("three labels turned", 3, turned), labels("64 labels in a cube", 64, within),
		sets("no effects", 0), sets("one effect", 1), sets("63 effects", 63), sets("64 effects", 64),
	)
}

// values: so many of them, rising from one on.
func values(n int, from uint64) (l []uint64) {
	for i := range n {
		l = append(l, from+uint64(i))
	}
	return l
}

// A sense, by the sides of its spots; all else is noughts.
func sided(sides ...api.Side) api.Sense {
	n := len(sides)
	z := api.Sense{Spots: make([]api.Spot, n), Low: make([]uint64, n), High: make([]uint64, n), Below: make([][]bool, n)}
	for i := range z.Below {
		z.Spots[i].Side, z.Below[i] = sides[i], make([]bool, n)
	}
	return z
}

const up, down, both = api.SiUp, api.SiDown, api.SiBoth

func sides() []api.Side { return []api.Side{up, down, both} }

// like: a sense, of which no list is shared.
func like(z api.Sense) api.Sense {
	z.Spots, z.Low, z.High, z.Below = slices.Clone(z.Spots), slices.Clone(z.Low), slices.Clone(z.High), slices.Clone(z.Below)
	for i, row := range z.Below {
		z.Below[i] = slices.Clone(row)
	}
	return z
}

// change: a sense in which something is another one.
func change(z api.Sense, with func(z *api.Sense)) api.Sense {
	z = like(z)
	with(&z)
	return z
}

func equal(a, b api.Sense) bool {
	return slices.Equal(a.Spots, b.Spots) && slices.Equal(a.Low, b.Low) && slices.Equal(a.High, b.High) && slices.EqualFunc(a.Below, b.Below, slices.Equal)
}

// What the tests ask for is worked out by themselves: two spots at a time, as the chapter has it.

// whole: whether a sense has as much of each as it has spots, and no side that there is not.
func whole(z api.Sense) bool {
	n := len(z.Spots)
	if len(z.Low) != n || len(z.High) != n || len(z.Below) != n {
		return false
	}
	for i := range n {
		if len(z.Below[i]) != n || !slices.Contains(sides(), z.Spots[i].Side) {
			return false
		}
	}
	return true
}

func alike(z api.Sense, i, j int) bool {
	if z.Spots[i].Side != z.Spots[j].Side {
		return false
	}
	sameUnder, sameBeyond := true, true
	for k := range z.Spots {
		sameUnder = sameUnder && z.Below[k][i] == z.Below[k][j]
		sameBeyond = sameBeyond && z.Below[i][k] == z.Below[j][k]
	}
	switch z.Spots[i].Side {
	case up:
		return z.Low[i] == z.Low[j] && sameUnder
	case down:
		return z.High[i] == z.High[j] && sameBeyond
	}
	return z.Low[i] == z.Low[j] && z.High[i] == z.High[j] && z.Below[i][j] && z.Below[j][i] && sameUnder && sameBeyond
}

// first: what Of is to tell of a sense that is whole.
func first(z api.Sense) []int {
	all := make([]int, len(z.Spots))
	for i := range all {
		for all[i] < i && !alike(z, all[i], i) {
			all[i]++
		}
	}
	return all
}

// fixed: what Fixed is to tell of a sense that is whole.
func (k sort) fixed(z api.Sense) (is []bool, values []uint64) {
	for i, spot := range z.Spots {
		fixed, value := true, uint64(0)
		for j := range z.Spots {
			switch {
			case spot.Side == up && z.Below[j][i]:
				fixed = fixed && k.below(z.High[j], z.Low[i])
			case spot.Side == down && z.Below[i][j]:
				fixed = fixed && k.below(z.High[i], z.Low[j])
			case spot.Side == both:
				fixed = z.Low[i] == z.High[i]
			}
		}
		if fixed {
			value = map[api.Side]uint64{up: z.Low[i], down: z.High[i], both: z.Low[i]}[spot.Side]
		}
		is, values = append(is, fixed), append(values, value)
	}
	return is, values
}

// want: what both are to tell.
func (k sort) want(z api.Sense) (of []int, is []bool, values []uint64) {
	if whole(z) {
		of = first(z)
		is, values = k.fixed(z)
	}
	return of, is, values
}

// is holds both against what they are to tell.
func (k sort) is(t *testing.T, name string, z api.Sense) {
	t.Helper()
	of, is, values := k.want(z)
	k.told(t, name, z, of)
	k.toldFixed(t, name, z, is, values)
}

// told holds Of against what is written there.
func (k sort) told(t *testing.T, name string, z api.Sense, want []int) {
	t.Helper()
	if of := rows.Of(k.s, z); !slices.Equal(of, want) {
		t.Fatalf("%s, %s: Of(%v):\n%v, want\n%v", k.name, name, z, of, want)
	}
}

// toldFixed holds Fixed against what is written there.
func (k sort) toldFixed(t *testing.T, name string, z api.Sense, is []bool, values []uint64) {
	t.Helper()
	if fixed, at := rows.Fixed(k.s, z); !slices.Equal(fixed, is) || !slices.Equal(at, values) {
		t.Fatalf("%s, %s: Fixed(%v):\n%v, %v, want\n%v, %v", k.name, name, z, fixed, at, is, values)
	}
}

// toldAt holds what Fixed tells of one spot against what is written there.
func (k sort) toldAt(t *testing.T, name string, z api.Sense, at int, is bool, value uint64) {
	t.Helper()
	if fixed, values := rows.Fixed(k.s, z); len(fixed) != len(z.Spots) || len(values) != len(z.Spots) || fixed[at] != is || values[at] != value {
		t.Fatalf("%s, %s: Fixed(%v): %v, %v, want at %d %v, %d", k.name, name, z, fixed, values, at, is, value)
	}
}

// nothing holds both against nothing.
func (k sort) nothing(t *testing.T, name string, z api.Sense) {
	t.Helper()
	k.told(t, name, z, nil)
	k.toldFixed(t, name, z, nil, nil)
}

// A source tells numbers with no rule to be seen in them, the same ones each time.
type source uint64

// below: the next one, below n.
func (s *source) below(n int) int {
	*s = *s*6364136223846793005 + 1442695040888963407
	return int(*s >> 33 % source(n))
}

// anySense: one of so many spots, that no call made; of few values, so that spots are alike; often it may be one.
func (s *source) anySense(k sort, n int) api.Sense {
	z := sided(make([]api.Side, n)...)
	all := append(slices.Clone(k.few), 0)
	if s.below(4) == 0 {
		all = append(all, k.other...)
	}
	all = all[:1+s.below(len(all))]
	often := 1 + s.below(8)
	for i := range n {
		z.Spots[i] = api.Spot{Node: s.below(2), Part: api.Part(s.below(4)), Side: api.Side(s.below(3)), T: api.Term{Var: s.below(2) == 0, N: uint64(s.below(3))}}
		z.Low[i], z.High[i] = all[s.below(len(all))], all[s.below(len(all))]
		for j := range n {
			z.Below[i][j] = s.below(often) == 0
		}
	}
	if n > 1 && s.below(2) == 0 {
		for range s.below(n) {
			s.twin(z, s.below(n), s.below(n))
		}
	}
	switch i := s.below(60); {
	case i < 3:
		z.Low = slices.Repeat(z.Low, i)
	case i < 6:
		z.High = slices.Repeat(z.High, i-3)
	case i < 9:
		z.Below = slices.Repeat(z.Below, i-6)
	case i < 11 && n > 0:
		z.Below[s.below(n)] = slices.Repeat([]bool{false}, n-1+2*s.below(2))
	case i < 12 && n > 0:
		z.Spots[s.below(n)].Side = api.Side(s.below(256))
	}
	return z
}

// twin makes one spot nearly as another one is.
func (s *source) twin(z api.Sense, from, to int) {
	z.Spots[to].Side, z.Low[to], z.High[to] = z.Spots[from].Side, z.Low[from], z.High[from]
	copy(z.Below[to], z.Below[from])
	for k := range z.Below {
		z.Below[k][to] = z.Below[k][from]
	}
}

// The chapter's examples.

func v(n uint64) api.Term { return api.Term{Var: true, N: n} }
func c(n uint64) api.Term { return api.Term{N: n} }

// aFun: the function of chapter 13: from int to int, both of one label, a variable; its own label and PC are 0.
func aFun() api.Scheme {
	an := api.Node{Kind: api.KdBase, Name: "int", L: v(0)}
	return api.Scheme{LVars: 1, Body: []api.Node{{Kind: api.KdFun, Kids: 2}, an, an}}
}

func TestExamples(t *testing.T) {
	l, x := chain("0 below 1", 2), sets("no effects", 0)
	z, does, e := senses.Of(aFun(), l.s, x.s)
	if e != api.OK {
		t.Fatal(e)
	}
	l.told(t, "a function's labels", z, []int{0, 1, 2, 3})
	l.toldFixed(t, "a function's labels", z, []bool{true, true, false, false}, []uint64{0, 0, 0, 0})
	x.told(t, "a function's effects", does, []int{0})
	x.toldFixed(t, "a function's effects", does, []bool{true}, []uint64{0})
}

// P14.1

// twins: a sense of four spots, the second and the third one of that side, and alike; the first one is Below both, if they go up or both; both are Below the last one, if they go down or both.
func twins(side api.Side) api.Sense {
	z := sided(down, side, side, up)
	z.Low, z.High = []uint64{0, 1, 1, 2}, []uint64{1, 3, 3, 3}
	for i := 1; i < 3; i++ {
		z.Below[0][i], z.Below[i][3] = side != down, side != up
		z.Below[i][1], z.Below[i][2] = side == both, side == both
	}
	return z
}

// areTwins holds Of of a sense of twins against whether they are alike still.
func (k sort) areTwins(t *testing.T, name string, z api.Sense, are bool) {
	t.Helper()
	want := []int{0, 1, 2, 3}
	if are {
		want[2] = 1
	}
	if alike(z, 1, 2) != are || alike(z, 2, 1) != are {
		t.Fatalf("%s: the test's own: %v: %v", name, z, !are)
	}
	k.told(t, name, z, want)
}

func TestTwinsButForOneThing(t *testing.T) {
	for _, k := range append(fours(), nothing()...) {
		for _, side := range sides() {
			z := twins(side)
			k.areTwins(t, "twins", z, true)
			for i := 1; i < 3; i++ {
				for _, other := range sides() {
					k.areTwins(t, "the side", change(z, func(z *api.Sense) { z.Spots[i].Side = other }), other == side)
				}
				for _, value := range []uint64{0, 3, 4, 1<<32 + 1, math.MaxUint64} {
					k.areTwins(t, "Low", change(z, func(z *api.Sense) { z.Low[i] = value }), side == down)
					k.areTwins(t, "High", change(z, func(z *api.Sense) { z.High[i] = value }), side == up || value == 3)
				}
				spot := api.Spot{Node: 7, Part: api.PaEffect, Side: side, T: v(9)}
				k.areTwins(t, "node, part and term", change(z, func(z *api.Sense) { z.Spots[i] = spot }), true)
			}
			for i := range 4 {
				for j := range 4 {
					one := change(z, func(z *api.Sense) { z.Below[i][j] = !z.Below[i][j] })
					ofRow, ofColumn := i == 1 || i == 2, j == 1 || j == 2
					k.areTwins(t, "Below", one, !(ofRow && side != up || ofColumn && side != down))
				}
				if i == 0 || i == 3 {
					k.areTwins(t, "both under it", change(z, func(z *api.Sense) { z.Below[1][i], z.Below[2][i] = !z.Below[1][i], !z.Below[2][i] }), true)
					k.areTwins(t, "both beyond it", change(z, func(z *api.Sense) { z.Below[i][1], z.Below[i][2] = !z.Below[i][1], !z.Below[i][2] }), true)
				}
			}
		}
	}
}

// TestTwinsBelowOneAnother: both, one alone, or neither; those that go both are alike only if each is Below the other one.
func TestTwinsBelowOneAnother(t *testing.T) {
	k := diamond()
	for _, side := range sides() {
		for ways := range 16 {
			z := twins(side)
			z.Below[1][1], z.Below[1][2], z.Below[2][1], z.Below[2][2] = ways&1 > 0, ways&2 > 0, ways&4 > 0, ways&8 > 0
			sameColumn, sameRow := z.Below[1][1] == z.Below[1][2] && z.Below[2][1] == z.Below[2][2], z.Below[1][1] == z.Below[2][1] && z.Below[1][2] == z.Below[2][2]
			k.areTwins(t, "below one another", z, map[api.Side]bool{up: sameColumn, down: sameRow, both: ways == 15}[side])
		}
	}
}

// classes: a sense of spots of one side, alike just if they have one number; told apart by the end that the side looks at, or by rows.
func classes(side api.Side, byRows bool, of []int) api.Sense {
	z := sided(slices.Repeat([]api.Side{side}, len(of))...)
	for i, class := range of {
		if !byRows {
			z.Low[i], z.High[i] = uint64(class), uint64(class)
		}
		for j, other := range of {
			z.Below[i][j] = class == other || !byRows
		}
	}
	return z
}

// TestTheFirstOneIsTold: of more than two, of the first spot and the last one, of none.
func TestTheFirstOneIsTold(t *testing.T) {
	for _, k := range []sort{diamond(), sets("two effects", 2), chain("64 labels", 64)} {
		for _, side := range sides() {
			for _, byRows := range []bool{false, true} {
				for _, want := range [][]int{
					{0}, {0, 0}, {0, 1}, {0, 0, 0, 0, 0}, {0, 1, 2, 3, 4}, {0, 1, 2, 3, 0}, {0, 1, 1, 1, 4}, {0, 1, 0, 1, 0}, {0, 0, 2, 2, 0, 2}, {0, 1, 2, 2, 1, 0}, {0, 1, 2, 3, 3, 3},
				} {
					k.told(t, "classes", classes(side, byRows, want), want)
				}
			}
		}
	}
}

// TestSpotsOfAllSides: alike only within one, whatever stands between.
func TestSpotsOfAllSides(t *testing.T) {
	z := sided(up, down, both, up, down, both, both, down, up)
	for i := range z.Below {
		z.Below[i] = slices.Repeat([]bool{true}, 9)
	}
	want := []int{0, 1, 2, 0, 1, 2, 2, 1, 0}
	for _, k := range sorts() {
		k.told(t, "all Below all", z, want)
		k.told(t, "none Below any", sided(up, down, both, up, down, both, both, down, up), []int{0, 1, 2, 0, 1, 5, 6, 1, 0})
	}
}

// TestLongRows: spots told apart by one place alone, wherever it is, and not by it where their side does not look.
func TestLongRows(t *testing.T) {
	k := chain("two labels", 2)
	for _, n := range []int{1, 2, 63, 64, 65, 66, 127, 128, 129, 191, 192, 193, 257, 300} {
		for _, side := range sides() {
			z := classes(side, false, make([]int, n))
			same := make([]int, n)
			k.told(t, "all are alike", z, same)
			other := slices.Clone(same)
			other[n-1] = n - 1
			for _, at := range []int{0, 1, 31, 32, 62, 63, 64, 65, 126, 127, 128, 190, 191, 192, n - 2} {
				if at < 0 || at >= n-1 {
					continue
				}
				under, beyond := change(z, func(z *api.Sense) { z.Below[at][n-1] = false }), change(z, func(z *api.Sense) { z.Below[n-1][at] = false })
				switch side {
				case up:
					k.told(t, "another one under it", under, other)
					k.told(t, "another one beyond it", beyond, allBut(n, at))
				case down:
					k.told(t, "another one under it", under, allBut(n, at))
					k.told(t, "another one beyond it", beyond, other)
				case both:
					k.is(t, "another one under it", under)
					k.is(t, "another one beyond it", beyond)
				}
			}
		}
	}
}

// allBut: what is told where all are alike but the one at that place.
func allBut(n, at int) []int {
	all := make([]int, n)
	all[at] = at
	if at == 0 {
		all = slices.Repeat([]int{1}, n)
		all[0] = 0
	}
	return all
}

// TestLongRowsOfClasses: the same pieces in another order, or none, make other rows.
func TestLongRowsOfClasses(t *testing.T) {
	const n = 260
	k := chain("two labels", 2)
	s := source(3)
	for round := range 30 {
		// Of each piece of 64 places one of few rows of bits, so that pieces come again.
		pieces := make([][]bool, 2)
		for i := range pieces {
			for range 64 {
				pieces[i] = append(pieces[i], s.below(2) == 0)
			}
		}
		for _, side := range sides() {
			z := sided(slices.Repeat([]api.Side{side}, n)...)
			for i := range n {
				for j := range n {
					z.Below[i][j] = pieces[(i%16)>>(j/64%4)&1][j%64]
				}
			}
			if round%2 == 0 { // turned round: columns for rows
				one := like(z)
				for i := range n {
					for j := range n {
						z.Below[i][j] = one.Below[j][i]
					}
				}
			}
			k.is(t, "pieces", z)
		}
	}
	// Each spot is Below one other one alone, at each place of a row.
	for _, side := range sides() {
		z, want := sided(slices.Repeat([]api.Side{side}, n)...), make([]int, n)
		for i := range n {
			z.Below[i][n-1-i], want[i] = true, i
		}
		k.told(t, "one alone", z, want)
	}
}

// P14.2

// crowd: a sense of five spots, of which that one goes up or down, and all others are Below it, or it is Below them; all others have that end, of all spots the ends on the other sides are such as hold nowhere.
func crowd(side api.Side, at int, own, others uint64) api.Sense {
	turn := map[api.Side]api.Side{up: down, down: up}[side]
	z := sided(slices.Repeat([]api.Side{turn}, 5)...)
	z.Spots[at].Side = side
	for k := range 5 {
		if side == up {
			z.Low[k], z.High[k], z.Below[k][at] = 9, others, k != at
		} else {
			z.Low[k], z.High[k], z.Below[at][k] = others, 9, k != at
		}
	}
	if side == up {
		z.Low[at], z.High[at] = own, 9
	} else {
		z.Low[at], z.High[at] = 9, own
	}
	return z
}

// TestFixedAmongOthers: of all that are Below it, or that it is Below, each has an end that lets it be fixed; then one alone has not.
func TestFixedAmongOthers(t *testing.T) {
	for _, k := range fours() {
		for _, side := range []api.Side{up, down} {
			ends := func(z api.Sense) []uint64 { return map[api.Side][]uint64{up: z.High, down: z.Low}[side] }
			for at := range 5 {
				for own := range uint64(4) {
					for end := range uint64(4) {
						is := within(end, own)
						if side == down {
							is = within(own, end)
						}
						value := map[bool]uint64{true: own}[is]
						k.toldAt(t, "all others", crowd(side, at, own, end), at, is, value)
						// One other one alone, whatever all others have, at each place: first and last, too.
						for one := range 5 {
							if one == at {
								continue
							}
							z := crowd(side, at, own, own)
							ends(z)[one] = end
							k.toldAt(t, "one alone", z, at, is, value)
							for _, none := range []uint64{4, 1 << 32, math.MaxUint64} {
								ends(z)[one] = none
								k.toldAt(t, "one that is no value", z, at, false, 0)
							}
							ends(z)[one] = end
							if side == up {
								z.Below[one][at], z.Below[at][one] = false, true
							} else {
								z.Below[at][one], z.Below[one][at] = false, true
							}
							k.toldAt(t, "one the other way round", z, at, true, own)
						}
					}
				}
			}
		}
	}
}

// TestFixedByThoseOfAllSides: whatever side one goes that is Below it, or that it is Below; itself, too.
func TestFixedByThoseOfAllSides(t *testing.T) {
	for _, k := range fours() {
		for _, side := range sides() {
			for low := range uint64(4) {
				for high := range uint64(4) {
					z := sided(up, side, down)
					z.Low, z.High = []uint64{low, 3, 9}, []uint64{9, 3, high}
					z.Low[1], z.High[1] = high, low
					z.Below[1][0], z.Below[2][1] = true, true
					k.is(t, "a side", z)
					k.toldAt(t, "one that goes up", z, 0, true, low)
					k.toldAt(t, "one that goes down", z, 2, true, high)
					z.High[1], z.Low[1] = high, low
					k.toldAt(t, "one that goes up", z, 0, within(high, low), map[bool]uint64{true: low}[within(high, low)])
					k.toldAt(t, "one that goes down", z, 2, within(high, low), map[bool]uint64{true: high}[within(high, low)])
					z = sided(side)
					z.Low[0], z.High[0], z.Below[0][0] = low, high, true
					is := side == both && low == high || side != both && within(high, low)
					k.toldAt(t, "itself", z, 0, is, map[bool]uint64{true: map[api.Side]uint64{up: low, down: high, both: low}[side]}[is])
				}
			}
		}
	}
}

// TestFixedAlone: one that goes up that no spot is Below, one that goes down that is Below none; of one that goes both nothing but its ends.
func TestFixedAlone(t *testing.T) {
	for _, k := range sorts() {
		all := slices.Concat(k.few, k.other)
		for _, low := range all {
			for _, high := range all {
				for _, below := range []bool{false, true} {
					z := sided(up, down, both)
					z.Low, z.High = []uint64{low, low, low}, []uint64{high, high, high}
					// What goes up may be Below others, and others Below what goes down, all the same.
					z.Below[0][0], z.Below[0][2], z.Below[2][1], z.Below[2][2] = false, below, below, below
					one, value := low == high, uint64(0)
					if one {
						value = low
					}
					k.toldFixed(t, "alone", z, []bool{true, true, one}, []uint64{low, high, value})
				}
			}
		}
	}
}

// TestFixedOfSortsWithoutValues: nothing is below anything there.
func TestFixedOfSortsWithoutValues(t *testing.T) {
	for _, k := range nothing() {
		for _, value := range k.other {
			z := sided(up, down, both, up, down)
			z.Low, z.High = slices.Repeat([]uint64{value}, 5), slices.Repeat([]uint64{value}, 5)
			z.Below[1][0], z.Below[2][3] = true, true
			k.toldFixed(t, "without values", z, []bool{false, false, true, false, true}, []uint64{0, 0, value, 0, value})
		}
	}
}

// TestFixedOfValuesThatThereAreNot: they are below nothing, themselves neither; but where no other end is asked for they stand.
func TestFixedOfValuesThatThereAreNot(t *testing.T) {
	for _, k := range sorts() {
		for _, value := range k.other {
			z := sided(up, down, both)
			z.Low, z.High = slices.Repeat([]uint64{value}, 3), slices.Repeat([]uint64{value}, 3)
			k.toldFixed(t, "no values", z, []bool{true, true, true}, []uint64{value, value, value})
			z.Below[1][0] = true
			k.toldFixed(t, "no values, Below", z, []bool{false, false, true}, []uint64{0, 0, value})
			k.told(t, "no values", z, []int{0, 1, 2})
			twin := change(twins(both), func(z *api.Sense) {
				z.Low[1], z.Low[2], z.High[1], z.High[2] = value, value, value, value
			})
			k.areTwins(t, "no values", twin, true)
		}
	}
}

// Both

// TestFewSpots: all senses of up to two spots, of each side, of few values, whichever is Below which.
func TestFewSpots(t *testing.T) {
	for _, k := range append(fours(), chain("two labels", 2), sort{name: "nothing", has: func(uint64) bool { return false }}) {
		few := append(slices.Clone(k.few), 4)
		for n := range 3 {
			ends := all(2*n, few)
			for code := range 1 << (n * n) {
				for kinds := range map[int]int{0: 1, 1: 3, 2: 9}[n] {
					z := sided([]api.Side{api.Side(kinds % 3), api.Side(kinds / 3)}[:n]...)
					for i := range n * n {
						z.Below[i/n][i%n] = code>>i&1 == 1
					}
					for _, end := range ends {
						z.Low, z.High = end[:n], end[n:]
						k.is(t, "few spots", z)
					}
				}
			}
		}
	}
}

// all: each row of so many of these values.
func all(n int, of []uint64) [][]uint64 {
	rows := [][]uint64{nil}
	for range n {
		var longer [][]uint64
		for _, row := range rows {
			for _, value := range of {
				longer = append(longer, append(slices.Clone(row), value))
			}
		}
		rows = longer
	}
	return rows
}

// TestHowMuchThereIs: of each less than there are spots, and more, tells nothing; of all just as much tells something.
func TestHowMuchThereIs(t *testing.T) {
	faults := map[string]func(z *api.Sense){
		"fewer spots": func(z *api.Sense) { z.Spots = z.Spots[:3] }, "more spots": func(z *api.Sense) { z.Spots = append(z.Spots, z.Spots[0]) }, "no spots": func(z *api.Sense) { z.Spots = nil },
		"fewer Low": func(z *api.Sense) { z.Low = z.Low[:3] }, "more Low": func(z *api.Sense) { z.Low = append(z.Low, 0) }, "no Low": func(z *api.Sense) { z.Low = nil },
		"fewer High": func(z *api.Sense) { z.High = z.High[:3] }, "more High": func(z *api.Sense) { z.High = append(z.High, 3) }, "no High": func(z *api.Sense) { z.High = nil },
		"fewer rows": func(z *api.Sense) { z.Below = z.Below[:3] }, "more rows": func(z *api.Sense) { z.Below = append(z.Below, make([]bool, 4)) }, "no rows": func(z *api.Sense) { z.Below = nil },
		"rows without places": func(z *api.Sense) { z.Below = make([][]bool, 4) },
		"rows and no more":    func(z *api.Sense) { *z = api.Sense{Below: z.Below} }, "spots and no more": func(z *api.Sense) { *z = api.Sense{Spots: z.Spots} },
	}
	for i := range 4 {
		for _, length := range []int{0, 1, 3, 5, 8, 64, 1000} {
			faults["row "+strconv.Itoa(i)+" of "+strconv.Itoa(length)] = func(z *api.Sense) { z.Below[i] = make([]bool, length) }
		}
		for _, side := range []api.Side{3, 4, 127, 128, 254, 255} {
			faults["spot "+strconv.Itoa(i)+" of side "+strconv.Itoa(int(side))] = func(z *api.Sense) { z.Spots[i].Side = side }
		}
	}
	for _, k := range sorts() {
		for _, side := range sides() {
			z := twins(side)
			k.areTwins(t, "as much of all", z, true)
			for name, with := range faults {
				k.nothing(t, name, change(z, with))
			}
		}
	}
}

// TestNoSpots: nothing is told of none, whatever there is beside.
func TestNoSpots(t *testing.T) {
	for _, k := range sorts() {
		for _, z := range []api.Sense{
			{}, {Spots: []api.Spot{}, Low: []uint64{}, High: []uint64{}, Below: [][]bool{}}, {Low: make([]uint64, 0, 4), Below: make([][]bool, 0, 4)},
			{Low: []uint64{0}}, {High: []uint64{0}}, {Below: [][]bool{nil}}, {Below: [][]bool{{true}}}, {Low: []uint64{1}, High: []uint64{1}, Below: [][]bool{{true}}},
		} {
			k.nothing(t, "no spots", z)
		}
	}
}

// P14.3

// follows holds that spots that are alike to one are alike, and that what is alike to a fixed one is fixed, with its value; it counts what it saw.
func (k sort) follows(t *testing.T, z api.Sense, counts map[string]int) {
	t.Helper()
	of, is, values := k.want(z)
	k.told(t, "what follows", z, of)
	k.toldFixed(t, "what follows", z, is, values)
	names := map[api.Side]string{up: "up", down: "down", both: "both"}
	of = rows.Of(k.s, z)
	is, values = rows.Fixed(k.s, z)
	for i, at := range of {
		if at > i || of[at] != at {
			t.Fatalf("%s: %v: %v", k.name, z, of)
		}
		if is[i] != is[at] || values[i] != values[at] || !is[i] && values[i] != 0 {
			t.Fatalf("%s: %v: alike %v; fixed %v, %v", k.name, z, of, is, values)
		}
		for j := range i {
			if alike(z, i, j) != (at == of[j]) {
				t.Fatalf("%s: %v: spots %d and %d: %v", k.name, z, i, j, of)
			}
		}
		side := names[z.Spots[i].Side]
		if at != i {
			counts[side+", alike"]++
		} else {
			counts[side+", the first one"]++
		}
		if at != i && is[i] {
			counts[side+", alike and fixed"]++
		}
		if is[i] {
			counts[side+", fixed"]++
		} else {
			counts[side+", not fixed"]++
		}
	}
}

// seen holds that there was enough of each kind.
func seen(t *testing.T, counts map[string]int, least int) {
	t.Helper()
	for _, side := range []string{"up", "down", "both"} {
		for _, kind := range []string{"alike", "the first one", "alike and fixed", "fixed", "not fixed"} {
			if counts[side+", "+kind] < least {
				t.Errorf("%s, %s: %d spots", side, kind, counts[side+", "+kind])
			}
		}
	}
}

func TestAnySenses(t *testing.T) {
	counts, whatever := map[string]int{}, 0
	s := source(8)
	k := sorts()
	for range 40000 {
		k := k[s.below(len(k))]
		z := s.anySense(k, s.below(8))
		if whole(z) {
			k.follows(t, z, counts)
		} else {
			whatever++
			k.nothing(t, "not whole", z)
		}
	}
	seen(t, counts, 500)
	if whatever < 1000 {
		t.Errorf("%d senses that are not whole", whatever)
	}
}

func TestAnyLongSenses(t *testing.T) {
	s := source(9)
	k := sorts()
	for range 150 {
		k := k[s.below(len(k))]
		k.is(t, "a long one", s.anySense(k, 50+s.below(150)))
	}
}

// term: one that may stand where there are so many variables of a sort.
func (s *source) term(k sort, vars int) api.Term {
	if vars > 0 && s.below(3) > 0 {
		return v(uint64(s.below(vars)))
	}
	return c(k.few[s.below(len(k.few))])
}

func (s *source) terms(k sort, vars, n int) (l []api.Term) {
	for range n {
		l = append(l, s.term(k, vars))
	}
	return l
}

func (s *source) bounds(k sort, vars, n int) (l []api.Bound) {
	for range n {
		l = append(l, api.Bound{A: s.term(k, vars), B: s.term(k, vars)})
	}
	return l
}

// body: one that may be, of few nodes; its terms are noughts.
func (s *source) body(depth int) []api.Node {
	kind := s.below(7)
	if depth < 2 {
		kind = 0
	}
	switch kind {
	case 0:
		return []api.Node{{Kind: api.KdBase, Name: "int"}}
	case 1, 2:
		body := []api.Node{{Kind: api.KdTuple, Kids: s.below(5)}}
		for range body[0].Kids {
			body = append(body, s.body(depth-1)...)
		}
		return body
	case 3:
		return append([]api.Node{{Kind: api.KdRef, Kids: 1}}, s.body(depth-1)...)
	}
	return slices.Concat([]api.Node{{Kind: api.KdFun, Kids: 2}}, s.body(depth-1), s.body(depth-1))
}

// scheme: one that may be, of those sorts.
func (s *source) scheme(l, x sort) api.Scheme {
	k := api.Scheme{LVars: s.below(5), EVars: s.below(5)}
	k.L, k.E = s.bounds(l, k.LVars, s.below(6)), s.bounds(x, k.EVars, s.below(6))
	body := s.body(2 + s.below(4))
	for len(body) > 40 {
		body = s.body(3)
	}
	labels, effects := spots.Of(body)
	k.Body, _ = spots.Put(body, s.terms(l, k.LVars, len(labels)), s.terms(x, k.EVars, len(effects)))
	return k
}

// TestSensesOfSchemes: of both sorts, whatever sort is one of labels, or of effects.
func TestSensesOfSchemes(t *testing.T) {
	var some []sort
	for _, k := range sorts() {
		if len(k.few) > 0 {
			some = append(some, k)
		}
	}
	ofLabels, ofEffects := map[string]int{}, map[string]int{}
	s := source(21)
	for range 20000 {
		l, x := some[s.below(len(some))], some[s.below(len(some))]
		if says, does, e := senses.Of(s.scheme(l, x), l.s, x.s); e == api.OK {
			l.follows(t, says, ofLabels)
			x.follows(t, does, ofEffects)
		}
	}
	seen(t, ofLabels, 300)
	seen(t, ofEffects, 300)
}

// TestSpotsOfOneTerm: those of one side where one and the same term stands are alike, whatever it is; a constant's are fixed.
func TestSpotsOfOneTerm(t *testing.T) {
	s := source(33)
	alikes := map[api.Side]int{}
	for range 3000 {
		l, x := diamond(), sets("two effects", 2)
		says, does, e := senses.Of(s.scheme(l, x), l.s, x.s)
		if e != api.OK {
			continue
		}
		for _, z := range []api.Sense{says, does} {
			of := rows.Of(l.s, z)
			is, values := rows.Fixed(l.s, z)
			for i, a := range z.Spots {
				if !a.T.Var && (!is[i] || values[i] != a.T.N) {
					t.Fatalf("%v: a constant at %d: %v, %v", z, i, is, values)
				}
				for j, b := range z.Spots[:i] {
					if a.T != b.T || a.Side != b.Side {
						continue
					}
					alikes[a.Side]++
					if of[i] != of[j] {
						t.Fatalf("%v: spots %d and %d: %v", z, i, j, of)
					}
				}
			}
		}
	}
	for _, side := range sides() {
		if alikes[side] < 500 {
			t.Errorf("side %d: %d pairs", side, alikes[side])
		}
	}
}

// TestAsManySpotsAsMayBe: a body of 63 functions and a ref, with 64 variables of each sort.
func TestAsManySpotsAsMayBe(t *testing.T) {
	body := []api.Node{{Kind: api.KdBase, Name: "int"}}
	for range 6 {
		body = slices.Concat([]api.Node{{Kind: api.KdFun, Kids: 2}}, body, body)
	}
	body = append([]api.Node{{Kind: api.KdTuple, Kids: 1}}, body...)
	l, x := chain("64 labels", 64), sets("64 effects", 64)
	for _, vars := range []int{1, 7, 64} {
		for _, kind := range []api.Kind{api.KdTuple, api.KdRef} { // all go up or down, then all both
			body[0].Kind = kind
			var terms []api.Term
			for i := range 300 {
				terms = append(terms, v(uint64(i%vars)))
			}
			labels, effects := spots.Of(body)
			k := api.Scheme{LVars: vars, EVars: vars}
			k.Body, _ = spots.Put(body, terms[:len(labels)], terms[:len(effects)])
			for i := range uint64(vars - 1) {
				k.L, k.E = append(k.L, api.Bound{A: v(i), B: v(i + 1)}), append(k.E, api.Bound{A: v(i), B: v(i + 1)})
			}
			says, does, e := senses.Of(k, l.s, x.s)
			if e != api.OK || len(says.Spots) != 191 || len(does.Spots) != 63 {
				t.Fatalf("%d variables: %v", vars, e)
			}
			l.is(t, "as many as may be", says)
			x.is(t, "as many as may be", does)
		}
	}
}

// R1

// TestEveryCallEnds: at great lists, of rows that are not there, or too long, and of as many spots as never stand in a body.
func TestEveryCallEnds(t *testing.T) {
	const most = 300000
	great := api.Sense{Spots: make([]api.Spot, most), Low: make([]uint64, most), High: make([]uint64, most), Below: make([][]bool, most)}
	slack := sided(up)
	slack.Below[0] = make([]bool, most)
	lone := sided(up)
	lone.Spots = great.Spots
	many := classes(both, true, slices.Repeat([]int{0, 1, 2}, 500))
	for _, k := range sorts() {
		for _, z := range []api.Sense{great, slack, lone, {Low: great.Low}, {High: great.High}, {Below: great.Below}, {Spots: great.Spots}} {
			of := rows.Of(k.s, z)
			is, values := rows.Fixed(k.s, z)
			if len(of) != 0 || len(is) != 0 || len(values) != 0 {
				t.Errorf("%s: great lists: %d, %d, %d", k.name, len(of), len(is), len(values))
			}
		}
		of := rows.Of(k.s, many)
		is, values := rows.Fixed(k.s, many)
		if !slices.Equal(of, slices.Repeat([]int{0, 1, 2}, 500)) || slices.Contains(is, false) || !slices.Equal(values, make([]uint64, 1500)) {
			t.Errorf("%s: 1500 spots", k.name)
		}
	}
}

// R4

// roomy: a list with spare room behind it, as whole (l and its room) and as l.
func roomy[T any](l []T, room int, spare T) (whole, part []T) {
	whole = slices.Clip(slices.Concat(l, slices.Repeat([]T{spare}, room)))
	return whole, whole[:len(l)]
}

// spacious: a sense all of whose lists have spare room, as whole and as the sense.
func spacious(z api.Sense, room int) (whole, part api.Sense) {
	whole.Spots, part.Spots = roomy(z.Spots, room, api.Spot{Node: 77, Part: 3, Side: 9, T: v(7)})
	whole.Low, part.Low = roomy(z.Low, room, 77)
	whole.High, part.High = roomy(z.High, room, 78)
	longs, shorts := make([][]bool, len(z.Below)), make([][]bool, len(z.Below))
	for i, row := range z.Below {
		longs[i], shorts[i] = roomy(row, room, true)
	}
	whole.Below, _ = roomy(longs, room, []bool{true})
	_, part.Below = roomy(shorts, room, []bool{true})
	return whole, part
}

func TestWhatIsHandedInStaysAsItWas(t *testing.T) {
	s := source(17)
	for _, k := range sorts() {
		for range 100 {
			z := s.anySense(k, s.below(6))
			for _, room := range []int{0, 1, 70} {
				all, part := spacious(z, room)
				was := like(all)
				k.is(t, "with room", part)
				if !equal(all, was) || !equal(part, z) {
					t.Fatalf("%s: %v became %v", k.name, was, all)
				}
			}
		}
		for _, a := range slices.Concat(k.few, k.other) {
			if k.s != nil && k.s.Has(a) != k.has(a) {
				t.Errorf("%s: Has(%d): %v", k.name, a, k.s.Has(a))
			}
		}
	}
	// The rows that stand in the room of Below are left there, too.
	z := twins(both)
	rows, part := roomy(z.Below, 2, []bool{true})
	z.Below = part
	diamond().areTwins(t, "rows in the room", z, true)
	if len(rows[4]) != 1 || len(rows[5]) != 1 {
		t.Errorf("rows in the room became %v", rows[4:])
	}
}

// TestSpareRoomIsNotRead: what is missing stands there.
func TestSpareRoomIsNotRead(t *testing.T) {
	for _, side := range sides() {
		for name, with := range map[string]func(z *api.Sense){
			"a spot in the room": func(z *api.Sense) { z.Spots = z.Spots[:3] }, "a Low in the room": func(z *api.Sense) { z.Low = z.Low[:3] }, "a High in the room": func(z *api.Sense) { z.High = z.High[:3] },
			"a row in the room": func(z *api.Sense) { z.Below = z.Below[:3] }, "a place in the room": func(z *api.Sense) { z.Below[3] = z.Below[3][:3] },
		} {
			diamond().nothing(t, name, change(twins(side), with))
		}
	}
}

// TestRowsThatAreShared: one list may stand in a sense several times.
func TestRowsThatAreShared(t *testing.T) {
	k := chain("two labels", 2)
	ends, row := []uint64{1, 1, 1}, []bool{true, true, true}
	for _, side := range sides() {
		z := sided(side, side, side)
		z.Low, z.High, z.Below = ends, ends, [][]bool{row, row, row}
		k.told(t, "shared", z, []int{0, 0, 0})
		k.toldFixed(t, "shared", z, []bool{true, true, true}, []uint64{1, 1, 1})
	}
	if !slices.Equal(ends, []uint64{1, 1, 1}) || !slices.Equal(row, []bool{true, true, true}) {
		t.Errorf("%v, %v", ends, row)
	}
}

func TestEmptyAndNilMeanTheSame(t *testing.T) {
	for _, k := range sorts() {
		for ways := range 16 {
			var z api.Sense
			if ways&1 > 0 {
				z.Spots = []api.Spot{}
			}
			if ways&2 > 0 {
				z.Low = make([]uint64, 0, 3)
			}
			if ways&4 > 0 {
				z.High = []uint64{7}[:0]
			}
			if ways&8 > 0 {
				z.Below = [][]bool{{true}}[1:]
			}
			k.nothing(t, "empty or nil", z)
			row := sided(up)
			row.Below[0] = map[bool][]bool{true: {}, false: nil}[ways&1 > 0]
			k.nothing(t, "an empty row", row)
		}
	}
}

// scribble: writes other values over a list and its spare room.
func scribble[T any](l []T, over T) {
	l = l[:cap(l)]
	for i := range l {
		l[i] = over
	}
}

// scrawl: writes other values over all of a sense, and its spare room.
func scrawl(z api.Sense) {
	scribble(z.Spots, api.Spot{Node: 99, Part: 9, Side: 9, T: v(99)})
	scribble(z.Low, 9999)
	scribble(z.High, 8888)
	for _, row := range z.Below[:cap(z.Below)] {
		for i := range row[:cap(row)] {
			row[:cap(row)][i] = !row[:cap(row)][i]
		}
	}
	scribble(z.Below, []bool{true, false, true})
}

// TestAnswersOwnTheirMemory: what is written into one answer, and behind it, is to be seen nowhere else; nor what becomes of what was handed in.
func TestAnswersOwnTheirMemory(t *testing.T) {
	s := source(19)
	for _, k := range sorts() {
		for n := range 60 {
			z := s.anySense(k, n%9)
			was := like(z)
			of, is, values := k.want(was)
			one := rows.Of(k.s, z)
			oneIs, oneValues := rows.Fixed(k.s, z)
			other := rows.Of(k.s, z)
			otherIs, otherValues := rows.Fixed(k.s, z)
			scribble(one, 99)
			scribble(oneValues, 98)
			if !slices.Equal(oneIs, is) {
				t.Fatalf("%s: %v: what was written over values stands elsewhere: %v", k.name, was, oneIs)
			}
			for i := range oneIs {
				oneIs[i] = !oneIs[i]
			}
			if !equal(z, was) {
				t.Fatalf("%s: what was written over an answer stands in what was handed in: %v, %v", k.name, was, z)
			}
			k.is(t, "after an answer was written over", z)
			scrawl(z)
			if !slices.Equal(other, of) || !slices.Equal(otherIs, is) || !slices.Equal(otherValues, values) {
				t.Fatalf("%s: %v: an answer became %v, %v, %v", k.name, was, other, otherIs, otherValues)
			}
		}
	}
}

// TestNothingIsKept: what becomes of what was handed in changes no later answer but its own.
func TestNothingIsKept(t *testing.T) {
	k := diamond()
	z := twins(both)
	k.areTwins(t, "at first", z, true)
	z.Below[0][1] = false
	k.areTwins(t, "another row", z, false)
	z.Below[0][2] = false
	k.areTwins(t, "both another row", z, true)
	k.toldAt(t, "two ends", z, 1, false, 0)
	z.High[1] = 1
	k.areTwins(t, "another end", z, false)
	k.toldAt(t, "one end", z, 1, true, 1)
	z.Spots[1].Side = 3
	k.nothing(t, "no side", z)
	z.Spots[1].Side = up
	k.toldAt(t, "a side", z, 1, false, 0)
	z.Below[1][1], z.Below[2][1] = false, false
	k.toldAt(t, "alone", z, 1, true, 1)
}

// R5

func TestAnswersHangOnArgumentsAlone(t *testing.T) {
	shared := sorts()
	var done sync.WaitGroup
	for worker := range 8 {
		done.Go(func() {
			own := sorts()
			s := source(worker + 50)
			for i := range shared {
				// Twice: of the same sorts as others ask, and of own ones.
				for _, k := range []sort{shared[(i+worker)%len(shared)], own[i]} {
					for range 100 {
						z := s.anySense(k, s.below(9))
						of, is, values := k.want(z)
						ofIs := rows.Of(k.s, z)
						fixed, at := rows.Fixed(k.s, z)
						if !slices.Equal(ofIs, of) || !slices.Equal(fixed, is) || !slices.Equal(at, values) {
							t.Errorf("%s, beside others: %v: %v, %v, %v", k.name, z, ofIs, fixed, at)
						}
					}
				}
			}
		})
	}
	done.Wait()
}
