package lattices_test

import (
	"math"
	"slices"
	"sync"
	"testing"

	"cartouche/api"
	"cartouche/lattices"
	"cartouche/orders"
)

// A table says of two labels whether the first one is below the second one. What the tests ask for is sought in tables, as the document words it, two labels at a time, where the program goes by whole rows.
type table [][]bool

// told: the table of what a rule says of two labels.
func told(n int, below func(a, b int) bool) table {
	t := make(table, n)
	for a := range t {
		t[a] = make([]bool, n)
		for b := range t[a] {
			t[a][b] = below(a, b)
		}
	}
	return t
}

// rows: the table's rows of bits.
func (t table) rows() []uint64 {
	rows := make([]uint64, len(t))
	for a := range t {
		place := uint64(1)
		for b := range t[a] {
			if t[a][b] {
				rows[a] += place
			}
			place *= 2
		}
	}
	return rows
}

func (t table) turned() table {
	return told(len(t), func(a, b int) bool { return t[b][a] })
}

// renamed: the same order of labels that have other numbers.
func (t table) renamed(by []int) table {
	back := make([]int, len(by))
	for a, to := range by {
		back[to] = a
	}
	return told(len(t), func(a, b int) bool { return t[back[a]][back[b]] })
}

// join: the label above both that is below all others above both.
func (t table) join(a, b int) int {
	for c := range t {
		is := t[a][c] && t[b][c]
		for d := range t {
			if t[a][d] && t[b][d] && !t[c][d] {
				is = false
			}
		}
		if is {
			return c
		}
	}
	return -1
}

// meet: the label below both that all others below both are below.
func (t table) meet(a, b int) int {
	for c := range t {
		is := t[c][a] && t[c][b]
		for d := range t {
			if t[d][a] && t[d][b] && !t[d][c] {
				is = false
			}
		}
		if is {
			return c
		}
	}
	return -1
}

// bottom: the label that is below all; top: the one that all are below.
func (t table) bottom() int {
	return slices.IndexFunc(t, func(row []bool) bool { return !slices.Contains(row, false) })
}

func (t table) top() int { return t.turned().bottom() }

func chain(n int) table { return told(n, func(a, b int) bool { return a <= b }) }

// sets: all sets of so many, by their bits.
func sets(n int) table { return told(1<<n, func(a, b int) bool { return a&b == a }) }

// flat: a bottom, a top, and all others between them, none below another one of them.
func flat(n int) table {
	return told(n, func(a, b int) bool { return a == b || a == 0 || b == n-1 })
}

// grid: pairs of two numbers, below as both are.
func grid(wide, high int) table {
	return told(wide*high, func(a, b int) bool { return a%wide <= b%wide && a/wide <= b/wide })
}

// divisors: the divisors of a number, by which divides which.
func divisors(n int) table {
	var l []int
	for d := 1; d <= n; d++ {
		if n%d == 0 {
			l = append(l, d)
		}
	}
	return told(len(l), func(a, b int) bool { return l[b]%l[a] == 0 })
}

// pentagon: a bottom, one beside two of which one is below the other, a top.
func pentagon() table {
	return told(5, func(a, b int) bool { return a == b || a == 0 || b == 4 || a == 2 && b == 3 })
}

// shuffled: numbers below n with no rule to be seen in their order; the same ones each time.
func shuffled(n int, seed uint32) []int {
	l := make([]int, n)
	for i := range l {
		l[i] = i
	}
	for i := range l {
		seed = seed*1664525 + 1013904223
		j := int(seed>>8) % n
		l[i], l[j] = l[j], l[i]
	}
	return l
}

// named: lattices by their names, of one label up to as many as there may be.
func named() map[string]table {
	return map[string]table{
		"one": chain(1), "two": chain(2), "three": chain(3), "chain of 63": chain(63), "chain of 64": chain(64),
		"four": sets(2), "sets of three": sets(3), "sets of six": sets(6), "flat of five": flat(5), "flat of 63": flat(63), "flat of 64": flat(64),
		"grid": grid(8, 8), "narrow grid": grid(2, 32), "flat grid": grid(21, 3),
		"divisors of 720": divisors(720), "divisors of 2310": divisors(2310), "pentagon": pentagon(),
	}
}

// each: calls use with each lattice by its name, with others of the same order but other numbers, and with these turned round.
func each(use func(name string, order table)) {
	for name, order := range named() {
		use(name, order)
		use(name+" turned round", order.turned())
		for seed := range uint32(3) {
			use(name+" with other numbers", order.renamed(shuffled(len(order), seed)))
			use(name+" turned round, with other numbers", order.turned().renamed(shuffled(len(order), seed)))
		}
	}
}

// small: calls use with all lattices of up to four labels, and with all of five in which none is below one of a less number, as they are and with other numbers.
func small(use func(order table)) {
	try := func(order table) bool {
		ok := orders.Check(order.rows()) == api.OK
		if ok {
			use(order)
		}
		return ok
	}
	for n := 1; n <= 4; n++ {
		for all := range 1 << (n * n) {
			try(told(n, func(a, b int) bool { return all>>(a*n+b)&1 == 1 }))
		}
	}
	// Of five labels in which none is below one of a less number ten bits say all.
	for all := range 1 << 10 {
		order := told(5, func(a, b int) bool { return a == b || a < b && all>>(b*(b-1)/2+a)&1 == 1 })
		for seed := range uint32(6) {
			if !try(order.renamed(shuffled(5, seed))) {
				break
			}
		}
	}
}

func lattice(t *testing.T, rows []uint64) *lattices.Lattice {
	t.Helper()
	l, e := lattices.New(rows)
	if l == nil || e != api.OK {
		t.Fatalf("New(%v): %v, %v", rows, l, e)
	}
	return l
}

// is: faults t, if the lattice answers anything of its labels that this order does not.
func is(t *testing.T, name string, l *lattices.Lattice, order table) {
	t.Helper()
	for a := range order {
		if !l.Has(uint64(a)) {
			t.Fatalf("%s: Has(%d) is false", name, a)
		}
		for b := range order {
			x, y := uint64(a), uint64(b)
			if got := l.Below(x, y); got != order[a][b] {
				t.Fatalf("%s: Below(%d, %d): %v", name, a, b, got)
			}
			if got, want := l.Join(x, y), order.join(a, b); got != uint64(want) {
				t.Fatalf("%s: Join(%d, %d): %d, want %d", name, a, b, got, want)
			}
			if got, want := l.Meet(x, y), order.meet(a, b); got != uint64(want) {
				t.Fatalf("%s: Meet(%d, %d): %d, want %d", name, a, b, got, want)
			}
		}
	}
	if got, want := l.Bottom(), order.bottom(); got != uint64(want) {
		t.Fatalf("%s: Bottom: %d, want %d", name, got, want)
	}
	if got, want := l.Top(), order.top(); got != uint64(want) {
		t.Fatalf("%s: Top: %d, want %d", name, got, want)
	}
}

// numbers: of labels, of none, and such that are labels' once they are cut.
func numbers() []uint64 {
	l := []uint64{math.MaxInt64, 1 << 63, 1<<63 | 1, math.MaxUint64, math.MaxUint64 - 1, math.MaxUint64 - 63, 256, 257, 1 << 16, 1<<31 + 1, 1 << 32, 1<<32 + 1, 1 << 33}
	for i := range uint64(130) {
		l = append(l, i)
	}
	return l
}

// isNone: faults t, if what is there has any values.
func isNone(t *testing.T, name string, l *lattices.Lattice) {
	t.Helper()
	for _, a := range numbers() {
		if l.Has(a) {
			t.Fatalf("%s has %d", name, a)
		}
		for _, b := range []uint64{0, 1, a, 63, 64, math.MaxUint64} {
			if l.Below(a, b) || l.Below(b, a) {
				t.Fatalf("%s has %d below %d, or back", name, a, b)
			}
			if got := []uint64{l.Join(a, b), l.Join(b, a), l.Meet(a, b), l.Meet(b, a)}; !slices.Equal(got, make([]uint64, 4)) {
				t.Fatalf("%s: joins and meets of %d and %d: %v", name, a, b, got)
			}
		}
	}
	if l.Bottom() != 0 || l.Top() != 0 {
		t.Fatalf("%s: Bottom %d, Top %d", name, l.Bottom(), l.Top())
	}
}

func TestExamples(t *testing.T) {
	l := lattice(t, []uint64{3, 2})
	if !l.Has(1) || l.Has(2) {
		t.Errorf("Has(1), Has(2): %v, %v", l.Has(1), l.Has(2))
	}
	got := []uint64{l.Join(0, 1), l.Meet(0, 1), l.Bottom(), l.Top(), l.Join(0, 2)}
	if !slices.Equal(got, []uint64{1, 0, 0, 1, 0}) {
		t.Errorf("Join(0, 1), Meet(0, 1), Bottom, Top, Join(0, 2): %v", got)
	}
	if l, e := lattices.New([]uint64{1, 2}); l != nil || e != api.ErrNone {
		t.Errorf("New(1, 2): %v, %v", l, e)
	}
	var none *lattices.Lattice
	if none.Has(0) || none.Top() != 0 {
		t.Errorf("nil: Has(0), Top: %v, %d", none.Has(0), none.Top())
	}
}

// P5.1

func TestNewOfWhatIsNoLattice(t *testing.T) {
	for _, c := range []struct {
		why  string
		rows []uint64
		want api.Errno
	}{
		{"nil", nil, api.ErrArg},
		{"none", []uint64{}, api.ErrArg},
		{"65", make([]uint64, 65), api.ErrArg},
		{"65, with all bits", slices.Repeat([]uint64{math.MaxUint64}, 65), api.ErrArg},
		{"a bit of no label", []uint64{3}, api.ErrArg},
		{"a bit of no label in the second row", []uint64{3, 6}, api.ErrArg},
		{"the highest bit, of no label", []uint64{1 | 1<<63}, api.ErrArg},
		{"a bit of no label, and two below one another", []uint64{3, 7}, api.ErrArg},
		{"one that is not below itself", []uint64{0}, api.ErrOrder},
		{"the last one not below itself", []uint64{7, 6, 0}, api.ErrOrder},
		{"two below one another", []uint64{3, 3}, api.ErrOrder},
		{"one not below what is above one above it", []uint64{3, 6, 4}, api.ErrOrder},
		{"no order, nor joins", []uint64{1, 2, 0}, api.ErrOrder},
		{"two apart", []uint64{1, 2}, api.ErrNone},
		{"none above both", []uint64{7, 2, 4}, api.ErrNone},
		{"none below both", []uint64{5, 6, 4}, api.ErrNone},
		{"none below all others above both", []uint64{0b111111, 0b111010, 0b111100, 0b101000, 0b110000, 0b100000}, api.ErrNone},
	} {
		l, e := lattices.New(c.rows)
		if l != nil || e != c.want || e != orders.Check(c.rows) {
			t.Errorf("New of %s, %v: %v, %v, want %v (%v)", c.why, c.rows, l, e, c.want, orders.Check(c.rows))
		}
		isNone(t, "what New tells of "+c.why, l)
	}
}

// TestNewTellsTheErrorOfCheck: of all rows of up to three labels with one bit more, and of four labels.
func TestNewTellsTheErrorOfCheck(t *testing.T) {
	seen := map[api.Errno]int{}
	try := func(rows []uint64) {
		want := orders.Check(rows)
		seen[want]++
		if l, e := lattices.New(rows); e != want || (l != nil) != (e == api.OK) {
			t.Fatalf("New(%v): %v, %v, want %v", rows, l, e, want)
		}
	}
	for n := 1; n <= 3; n++ {
		for all := range uint64(1) << (n * (n + 1)) {
			rows := make([]uint64, n)
			for i := range rows {
				rows[i] = all >> (i * (n + 1)) % (1 << (n + 1))
			}
			try(rows)
		}
	}
	for all := range uint64(1) << 16 {
		try([]uint64{all % 16, all >> 4 % 16, all >> 8 % 16, all >> 12})
	}
	for _, e := range []api.Errno{api.OK, api.ErrArg, api.ErrOrder, api.ErrNone} {
		if seen[e] == 0 {
			t.Errorf("no rows were such that New should answer %v", e)
		}
	}
}

func TestNewOfHowManyLabelsThereAre(t *testing.T) {
	for n := range 200 {
		l, e := lattices.New(told(n, func(a, b int) bool { return a <= b && b < 64 }).rows())
		if n < 1 || n > api.MaxLabels {
			if l != nil || e != api.ErrArg {
				t.Errorf("New of a chain of %d: %v, %v", n, l, e)
			}
			continue
		}
		if l == nil || e != api.OK {
			t.Fatalf("New of a chain of %d: %v, %v", n, l, e)
		}
		for a := range uint64(130) {
			if got := l.Has(a); got != (a < uint64(n)) {
				t.Errorf("a chain of %d: Has(%d): %v", n, a, got)
			}
		}
		if l.Bottom() != 0 || l.Top() != uint64(n-1) {
			t.Errorf("a chain of %d: Bottom %d, Top %d", n, l.Bottom(), l.Top())
		}
	}
}

// P5.1, P5.2, P5.3: the lattice of that order.

func TestWrittenLattices(t *testing.T) {
	for _, c := range []struct {
		rows             []uint64
		a, b, join, meet uint64
		bottom, top      uint64
	}{
		{[]uint64{1}, 0, 0, 0, 0, 0, 0},
		{[]uint64{3, 2}, 1, 1, 1, 1, 0, 1},
		{[]uint64{1, 3}, 0, 1, 0, 1, 1, 0},
		{[]uint64{15, 10, 12, 8}, 1, 2, 3, 0, 0, 3},
		{[]uint64{15, 10, 12, 8}, 1, 3, 3, 1, 0, 3},
		// 1 is below all, 2 above all; 0 and 3 are between them.
		{[]uint64{0b0101, 0b1111, 0b0100, 0b1100}, 0, 3, 2, 1, 1, 2},
		{[]uint64{0b0101, 0b1111, 0b0100, 0b1100}, 0, 1, 0, 1, 1, 2},
		{[]uint64{0b0101, 0b1111, 0b0100, 0b1100}, 2, 3, 2, 3, 1, 2},
		// 3 below 0 below 4 and 1, these below 2.
		{[]uint64{0b10111, 0b00110, 0b00100, 0b11111, 0b10100}, 1, 4, 2, 0, 3, 2},
		{[]uint64{0b10111, 0b00110, 0b00100, 0b11111, 0b10100}, 3, 4, 4, 3, 3, 2},
	} {
		l := lattice(t, c.rows)
		for range 2 {
			c.a, c.b = c.b, c.a
			if join, meet := l.Join(c.a, c.b), l.Meet(c.a, c.b); join != c.join || meet != c.meet {
				t.Errorf("%b: join and meet of %d and %d: %d, %d, want %d, %d", c.rows, c.a, c.b, join, meet, c.join, c.meet)
			}
		}
		if l.Bottom() != c.bottom || l.Top() != c.top {
			t.Errorf("%b: Bottom %d, Top %d, want %d, %d", c.rows, l.Bottom(), l.Top(), c.bottom, c.top)
		}
	}
}

func TestNamedLattices(t *testing.T) {
	each(func(name string, order table) { is(t, name, lattice(t, order.rows()), order) })
}

func TestSmallLattices(t *testing.T) {
	of := map[int]int{}
	small(func(order table) {
		of[len(order)]++
		is(t, "a small one", lattice(t, order.rows()), order)
	})
	// Of n labels with numbers there are so many lattices.
	for n, want := range []int{0, 1, 2, 6, 36} {
		if of[n] != want {
			t.Errorf("there were %d lattices of %d labels", of[n], n)
		}
	}
	// Seven have no label below one of a less number; each is tried with six numberings.
	if of[5] != 7*6 {
		t.Errorf("there were %d lattices of 5 labels", of[5])
	}
}

// TestNumbersThatAreNoLabel: Has, Below, Join and Meet of them, beside labels and beside one another.
func TestNumbersThatAreNoLabel(t *testing.T) {
	for _, order := range []table{chain(1), chain(2).turned(), sets(2).turned(), pentagon(), chain(63).turned(), flat(64).turned(), chain(64), chain(64).turned()} {
		l, n := lattice(t, order.rows()), uint64(len(order))
		for _, a := range numbers() {
			if got := l.Has(a); got != (a < n) {
				t.Fatalf("%d labels: Has(%d): %v", n, a, got)
			}
			for _, b := range numbers() {
				if a < n && b < n {
					continue
				}
				if l.Below(a, b) || l.Join(a, b) != 0 || l.Meet(a, b) != 0 {
					t.Fatalf("%d labels: Below, Join, Meet of %d and %d: %v, %d, %d", n, a, b, l.Below(a, b), l.Join(a, b), l.Meet(a, b))
				}
			}
		}
	}
}

func TestBottomAndTopOfAnyNumbers(t *testing.T) {
	for _, n := range []int{2, 3, 7, 63, 64} {
		for bottom := range n {
			for top := range n {
				if bottom == top {
					continue
				}
				order := told(n, func(a, b int) bool { return a == b || a == bottom || b == top })
				l := lattice(t, order.rows())
				if l.Bottom() != uint64(bottom) || l.Top() != uint64(top) {
					t.Fatalf("%d labels: Bottom %d, Top %d, want %d, %d", n, l.Bottom(), l.Top(), bottom, top)
				}
				for a := range n {
					b := (a + 1) % n
					if slices.Contains([]int{bottom, top}, a) || slices.Contains([]int{bottom, top}, b) {
						continue
					}
					if join, meet := l.Join(uint64(a), uint64(b)), l.Meet(uint64(a), uint64(b)); join != uint64(top) || meet != uint64(bottom) {
						t.Fatalf("%d labels: join and meet of %d and %d: %d, %d, want %d, %d", n, a, b, join, meet, top, bottom)
					}
				}
			}
		}
	}
}

// P5.4

func TestWhatFollows(t *testing.T) {
	laws := func(name string, order table) {
		l, n := lattice(t, order.rows()), uint64(len(order))
		for a := range n {
			if l.Join(a, a) != a || l.Meet(a, a) != a || !l.Below(a, a) {
				t.Fatalf("%s: %d and itself: %d, %d", name, a, l.Join(a, a), l.Meet(a, a))
			}
			if l.Join(a, l.Bottom()) != a || l.Meet(a, l.Top()) != a || l.Join(a, l.Top()) != l.Top() || l.Meet(a, l.Bottom()) != l.Bottom() {
				t.Fatalf("%s: %d and Bottom, %d, or Top, %d", name, a, l.Bottom(), l.Top())
			}
			for b := range n {
				join, meet := l.Join(a, b), l.Meet(a, b)
				if join != l.Join(b, a) || meet != l.Meet(b, a) {
					t.Fatalf("%s: %d and %d in another order: %d, %d", name, a, b, l.Join(b, a), l.Meet(b, a))
				}
				if l.Below(a, b) != (join == b) || l.Below(a, b) != (meet == a) {
					t.Fatalf("%s: %d and %d: below %v, join %d, meet %d", name, a, b, l.Below(a, b), join, meet)
				}
				if l.Join(a, meet) != a || l.Meet(a, join) != a {
					t.Fatalf("%s: %d and %d do not take one another in", name, a, b)
				}
				for c := range n {
					if l.Join(join, c) != l.Join(a, l.Join(b, c)) || l.Meet(meet, c) != l.Meet(a, l.Meet(b, c)) {
						t.Fatalf("%s: %d, %d and %d in other turns", name, a, b, c)
					}
				}
			}
		}
	}
	for name, order := range named() {
		laws(name, order)
		laws(name+" with other numbers", order.renamed(shuffled(len(order), 5)))
	}
	small(func(order table) { laws("a small one", order) })
}

// R1

func TestEveryCallEndsAtGreatLists(t *testing.T) {
	for _, row := range []uint64{0, 1, math.MaxUint64} {
		if l, e := lattices.New(slices.Repeat([]uint64{row}, 1000000)); l != nil || e != api.ErrArg {
			t.Errorf("New of a million rows of %d: %v, %v", row, l, e)
		}
	}
}

// TestEveryCallEndsAtAnyRows: rows with no rule to be seen in them; what New tells of them is asked everything.
func TestEveryCallEndsAtAnyRows(t *testing.T) {
	seed := uint64(1)
	for n := range 70 {
		for range 20 {
			rows := make([]uint64, n)
			for i := range rows {
				seed = seed*6364136223846793005 + 1442695040888963407
				rows[i] = seed
			}
			l, e := lattices.New(rows)
			if e != orders.Check(rows) || (l != nil) != (e == api.OK) {
				t.Fatalf("New(%v): %v, %v", rows, l, e)
			}
			if l == nil {
				isNone(t, "what New tells of any rows", l)
			}
		}
	}
}

// R3

func TestNilAndAZeroStructHaveNoValues(t *testing.T) {
	isNone(t, "nil", nil)
	isNone(t, "a zero struct", &lattices.Lattice{})
	isNone(t, "a new one", new(lattices.Lattice))
}

// R4

// handed: rows as a caller may hand them in: of lattices, of other orders, of no order, of too many.
func handed() [][]uint64 {
	l := [][]uint64{{}, {0}, {1}, {2}, {1, 2}, {3, 3}, {3, 6, 4}, {7, 2, 4}, {math.MaxUint64}, make([]uint64, 65)}
	for _, order := range named() {
		l = append(l, order.rows(), order.turned().rows())
	}
	return l
}

// roomy: a list with spare room behind it, as whole (l and its room) and as l.
func roomy(l []uint64, room int, spare uint64) (whole, part []uint64) {
	whole = slices.Clip(slices.Concat(l, slices.Repeat([]uint64{spare}, room)))
	return whole, whole[:len(l)]
}

func TestWhatIsHandedInStaysAsItWas(t *testing.T) {
	for _, room := range []int{0, 1, 7, 100} {
		for _, rows := range handed() {
			whole, part := roomy(rows, room, 12345)
			was := slices.Clone(whole)
			l, _ := lattices.New(part)
			for a := range uint64(len(rows) + 2) {
				l.Has(a)
				l.Below(a, 0)
				l.Join(a, 1)
				l.Meet(1, a)
			}
			l.Bottom()
			l.Top()
			if !slices.Equal(whole, was) {
				t.Errorf("%v with room for %d became %v", rows, room, whole)
			}
		}
	}
}

func TestSpareRoomIsNotRead(t *testing.T) {
	for _, rows := range handed() {
		want := orders.Check(rows)
		for _, spare := range []uint64{0, 1, math.MaxUint64} {
			_, part := roomy(rows, 70, spare)
			l, e := lattices.New(part)
			if e != want {
				t.Errorf("New of %v with room: %v, want %v", rows, e, want)
			}
			if n := uint64(len(rows)); l.Has(n) || l.Below(n, n) || l.Below(0, n) || l.Join(0, n) != 0 || l.Meet(n, 0) != 0 {
				t.Errorf("the lattice of %v with room tells of no label", rows)
			}
		}
	}
}

// TestRowsThatAreChangedBehindNew: the lattice keeps what they were.
func TestRowsThatAreChangedBehindNew(t *testing.T) {
	for name, order := range named() {
		for _, other := range []uint64{0, 1, math.MaxUint64} {
			whole, part := roomy(order.rows(), 3, 99)
			l := lattice(t, part)
			for i := range whole {
				whole[i] = other
			}
			is(t, name+", changed behind New", l, order)
		}
	}
	rows := []uint64{3, 2}
	l := lattice(t, rows)
	rows[0], rows[1] = 1, 3
	is(t, "two, turned round behind New", l, chain(2))
}

func TestEmptyAndNilMeanTheSame(t *testing.T) {
	for _, rows := range [][]uint64{nil, {}, make([]uint64, 0, 5), chain(3).rows()[:0]} {
		if l, e := lattices.New(rows); l != nil || e != api.ErrArg {
			t.Errorf("New of no rows: %v, %v", l, e)
		}
	}
}

// R5

func TestTwoLatticesShareNothing(t *testing.T) {
	rows := chain(5).rows()
	one := lattice(t, rows)
	copy(rows, chain(5).turned().rows())
	two := lattice(t, rows)
	copy(rows, pentagon().rows())
	three := lattice(t, rows)
	again := lattice(t, rows)
	if one == two || three == again {
		t.Error("New hands out an object a second time")
	}
	lattices.New([]uint64{1, 2})
	four := lattice(t, sets(3).rows())
	for range 2 {
		is(t, "a chain beside others", one, chain(5))
		is(t, "one turned round beside others", two, chain(5).turned())
		is(t, "a pentagon beside others", three, pentagon())
		is(t, "a pentagon again", again, pentagon())
		is(t, "sets beside others", four, sets(3))
	}
}

// TestAnswersHangOnNoOtherCall: lattices are made and asked at the same time, one of them by all.
func TestAnswersHangOnNoOtherCall(t *testing.T) {
	all := []table{chain(1), chain(7), sets(3).turned(), pentagon(), flat(9), grid(3, 4), divisors(60)}
	shared := lattice(t, grid(4, 4).turned().rows())
	var done sync.WaitGroup
	for worker := range 8 {
		done.Go(func() {
			for i := range 10 * len(all) {
				order := all[(i+worker)%len(all)]
				l, e := lattices.New(order.rows())
				if e != api.OK {
					t.Errorf("New(%v): %v", order.rows(), e)
					return
				}
				for a := range order {
					b := (a*a + i) % len(order)
					if l.Join(uint64(a), uint64(b)) != uint64(order.join(a, b)) || l.Meet(uint64(a), uint64(b)) != uint64(order.meet(a, b)) || l.Top() != uint64(order.top()) {
						t.Errorf("a lattice of %v beside others: Join and Meet of %d and %d, or Top", order.rows(), a, b)
					}
				}
				if shared.Bottom() != 15 || shared.Top() != 0 || shared.Join(7, 13) != 5 || shared.Meet(7, 13) != 15 {
					t.Error("one lattice that all ask")
				}
			}
		})
	}
	done.Wait()
}
