package orders_test

import (
	"math"
	"slices"
	"sync"
	"testing"

	"cartouche/api"
	"cartouche/orders"
)

// A table says of two labels whether the first one is below the second one. What the tests ask for is worked out of tables, two labels at a time, where the program goes by whole rows.
type table [][]bool

func blank(n int) table {
	t := make(table, n)
	for i := range t {
		t[i] = make([]bool, n)
	}
	return t
}

// told: the table of what a rule says of two labels.
func told(n int, below func(a, b int) bool) table {
	t := blank(n)
	for a := range n {
		for b := range n {
			t[a][b] = below(a, b)
		}
	}
	return t
}

// rows: the table's rows of bits.
func (t table) rows() []uint64 {
	rows := make([]uint64, len(t))
	for a := range t {
		place := uint64(1)
		for b := range t[a] {
			if t[a][b] {
				rows[a] += place
			}
			place *= 2
		}
	}
	return rows
}

// tableOf: back; false, if a bit is one of no label.
func tableOf(rows []uint64) (table, bool) {
	t := blank(len(rows))
	for a, row := range rows {
		for b := range 64 {
			if row%2 == 1 {
				if b >= len(rows) {
					return nil, false
				}
				t[a][b] = true
			}
			row /= 2
		}
	}
	return t, true
}

// lacks: what the table lacks to be an order: that a label is below itself, that no two are below one another, that it leads on; or nothing.
func (t table) lacks() string {
	for a := range t {
		if !t[a][a] {
			return "itself"
		}
		for b := range t {
			if a != b && t[a][b] && t[b][a] {
				return "one another"
			}
			for c := range t {
				if t[a][b] && t[b][c] && !t[a][c] {
					return "leads on"
				}
			}
		}
	}
	return ""
}

// least: whether of each two labels one above both is below all others above both.
func (t table) least() bool {
	for a := range t {
		for b := range t {
			found := false
			for c := range t {
				is := t[a][c] && t[b][c]
				for d := range t {
					is = is && (!t[a][d] || !t[b][d] || t[c][d])
				}
				found = found || is
			}
			if !found {
				return false
			}
		}
	}
	return true
}

func (t table) turned() table {
	return told(len(t), func(a, b int) bool { return t[b][a] })
}

// checked: what Check should answer.
func checked(rows []uint64) api.Errno {
	if len(rows) < 1 || len(rows) > 64 {
		return api.ErrArg
	}
	t, ok := tableOf(rows)
	switch {
	case !ok:
		return api.ErrArg
	case t.lacks() != "":
		return api.ErrOrder
	case !t.least(), !t.turned().least():
		return api.ErrNone
	}
	return api.OK
}

// closed: what Close should answer of pairs that may be: each label's row by a walk from it on.
func closed(n int, pairs [][2]int) ([]uint64, api.Errno) {
	t := blank(n)
	for a := range n {
		todo := []int{a}
		for len(todo) > 0 {
			at := todo[0]
			todo = todo[1:]
			if t[a][at] {
				continue
			}
			t[a][at] = true
			for _, p := range pairs {
				if p[0] == at {
					todo = append(todo, p[1])
				}
			}
		}
	}
	if t.lacks() != "" {
		return nil, api.ErrOrder
	}
	return t.rows(), api.OK
}

func chain(n int) table { return told(n, func(a, b int) bool { return a <= b }) }

func apart(n int) table { return told(n, func(a, b int) bool { return a == b }) }

// sets: all sets of so many, by their bits.
func sets(n int) table { return told(1<<n, func(a, b int) bool { return a&b == a }) }

// flat: a bottom, a top, and all others between them, none below another one of them.
func flat(n int) table {
	return told(n, func(a, b int) bool { return a == b || a == 0 || b == n-1 })
}

// grid: pairs of two numbers, below as both are.
func grid(wide, high int) table {
	return told(wide*high, func(a, b int) bool { return a%wide <= b%wide && a/wide <= b/wide })
}

// divisors: the divisors of a number, by which divides which.
func divisors(n int) table {
	var l []int
	for d := 1; d <= n; d++ {
		if n%d == 0 {
			l = append(l, d)
		}
	}
	return told(len(l), func(a, b int) bool { return l[b]%l[a] == 0 })
}

// bow: a bottom, two above it, two above both of these, a top: of the lower two there are three above both, none of them below all others; of the upper two the same below.
func bow() table {
	return told(6, func(a, b int) bool { return a == b || (a+1)/2 < (b+1)/2 })
}

// pentagon: a bottom, one beside two of which one is below the other, a top.
func pentagon() table {
	return told(5, func(a, b int) bool { return a == b || a == 0 || b == 4 || a == 2 && b == 3 })
}

// renamed: the same order of labels that have other numbers.
func (t table) renamed(by []int) table {
	u := blank(len(t))
	for a := range t {
		for b := range t {
			u[by[a]][by[b]] = t[a][b]
		}
	}
	return u
}

// shuffled: numbers below n with no rule to be seen in their order; the same ones each time.
func shuffled(n int, seed uint32) []int {
	l := make([]int, n)
	for i := range l {
		l[i] = i
	}
	for i := range l {
		seed = seed*1664525 + 1013904223
		j := int(seed>>8) % n
		l[i], l[j] = l[j], l[i]
	}
	return l
}

// lattices: orders in which each two have a join and a meet.
func lattices() map[string]table {
	return map[string]table{
		"one": chain(1), "two": chain(2), "chain of 63": chain(63), "chain of 64": chain(64),
		"four": sets(2), "sets of six": sets(6), "flat of five": flat(5), "flat of 64": flat(64),
		"grid": grid(8, 8), "narrow grid": grid(2, 32), "flat grid": grid(21, 3),
		"divisors of 720": divisors(720), "divisors of 2310": divisors(2310), "pentagon": pentagon(),
	}
}

// without: the order of all labels but one.
func (t table) without(label int) table {
	return told(len(t)-1, func(a, b int) bool {
		if a >= label {
			a++
		}
		if b >= label {
			b++
		}
		return t[a][b]
	})
}

// others: orders of which two labels have no join, or no meet.
func others() map[string]table {
	return map[string]table{
		"two apart": apart(2), "64 apart": apart(64), "no top": flat(4).without(3), "no bottom": flat(4).without(0),
		"no top of 63": flat(64).without(63), "no bottom of 63": flat(64).without(0),
		"bow": bow(), "bow without a top": bow().without(5), "bow without a bottom": bow().without(0),
		"cube without one": sets(3).without(7), "cube without none": sets(3).without(0),
		"two chains":            told(64, func(a, b int) bool { return a%2 == b%2 && a <= b }),
		"grid without a corner": grid(8, 8).without(63), "grid without the other corner": grid(8, 8).without(0),
		"sets of four without one of two": sets(4).without(3), "sets of four without one of three": sets(4).without(7).without(0),
	}
}

// P4.1

func TestCheckExamples(t *testing.T) {
	for _, c := range []struct {
		rows []uint64
		want api.Errno
	}{
		{[]uint64{1}, api.OK},
		{[]uint64{3, 2}, api.OK},
		{[]uint64{1, 2}, api.ErrNone},
		{[]uint64{3, 3}, api.ErrOrder},
		{nil, api.ErrArg},
		{[]uint64{}, api.ErrArg},
	} {
		if got := orders.Check(c.rows); got != c.want {
			t.Errorf("Check(%v): %v, want %v", c.rows, got, c.want)
		}
	}
}

func TestCheckOfWrittenRows(t *testing.T) {
	for _, c := range []struct {
		why  string
		rows []uint64
		want api.Errno
	}{
		{"one that is not below itself", []uint64{0}, api.ErrOrder},
		{"a bit of no label alone", []uint64{2}, api.ErrArg},
		{"a bit of no label", []uint64{3}, api.ErrArg},
		{"the highest bit, of no label", []uint64{1 | 1<<63}, api.ErrArg},
		{"a bit of no label in the second row", []uint64{3, 6}, api.ErrArg},
		{"a bit of no label, and two below one another", []uint64{3, 7}, api.ErrArg},
		{"a bit of no label behind one that is not below itself", []uint64{0, 6}, api.ErrArg},
		{"the first one not below itself", []uint64{2, 2}, api.ErrOrder},
		{"the second one not below itself", []uint64{3, 0}, api.ErrOrder},
		{"the last one not below itself", []uint64{7, 6, 0}, api.ErrOrder},
		{"none below anything", []uint64{0, 0}, api.ErrOrder},
		{"the second one below the first one", []uint64{1, 3}, api.OK},
		{"two below one another", []uint64{7, 6, 6}, api.ErrOrder},
		{"the first one and the last one below one another", []uint64{7, 6, 5}, api.ErrOrder},
		{"one not below what is above one above it", []uint64{3, 6, 4}, api.ErrOrder},
		{"the same the other way", []uint64{1, 3, 6}, api.ErrOrder},
		{"leads round", []uint64{3, 6, 5}, api.ErrOrder},
		{"none above both", []uint64{7, 2, 4}, api.ErrNone},
		{"none below both", []uint64{5, 6, 4}, api.ErrNone},
		{"both, above and below", []uint64{15, 10, 12, 8}, api.OK},
		{"no order, nor joins", []uint64{1, 2, 0}, api.ErrOrder},
		{"none below all others above both", []uint64{0b111111, 0b111010, 0b111100, 0b101000, 0b110000, 0b100000}, api.ErrNone},
		{"the same without a bottom", []uint64{0b11101, 0b11110, 0b10100, 0b11000, 0b10000}, api.ErrNone},
		{"none above all others below both", []uint64{0b11111, 0b11010, 0b11100, 0b01000, 0b10000}, api.ErrNone},
	} {
		if got := orders.Check(c.rows); got != c.want || checked(c.rows) != c.want {
			t.Errorf("Check of %s, %v: %v, want %v (%v)", c.why, c.rows, got, c.want, checked(c.rows))
		}
	}
}

func TestCheckOfHowManyRowsThereAre(t *testing.T) {
	for n := range 200 {
		rows := make([]uint64, n)
		for i := range rows {
			rows[i] = math.MaxUint64 << i
			if n < 64 {
				rows[i] &= 1<<n - 1
			}
		}
		want := api.OK
		if n < 1 || n > api.MaxLabels {
			want = api.ErrArg
		}
		if got := orders.Check(rows); got != want {
			t.Errorf("Check of a chain of %d: %v, want %v", n, got, want)
		}
	}
}

// TestCheckOfAllRows: all rows of up to three labels and one bit more, and all of four labels.
func TestCheckOfAllRows(t *testing.T) {
	seen := map[api.Errno]int{}
	try := func(rows []uint64) {
		want := checked(rows)
		seen[want]++
		if got := orders.Check(rows); got != want {
			t.Fatalf("Check(%v): %v, want %v", rows, got, want)
		}
	}
	for n := 1; n <= 3; n++ {
		bits := n + 1
		for all := range uint64(1) << (n * bits) {
			rows := make([]uint64, n)
			for i := range rows {
				rows[i] = all >> (i * bits) % (1 << bits)
			}
			try(rows)
		}
	}
	for all := range uint64(1) << 16 {
		try([]uint64{all % 16, all >> 4 % 16, all >> 8 % 16, all >> 12})
	}
	for _, e := range []api.Errno{api.OK, api.ErrArg, api.ErrOrder, api.ErrNone} {
		if seen[e] == 0 {
			t.Errorf("no rows were such that Check should answer %v", e)
		}
	}
}

func TestCheckOfLattices(t *testing.T) {
	for name, order := range lattices() {
		for seed := range uint32(4) {
			rows := order.renamed(shuffled(len(order), seed)).rows()
			if got := orders.Check(rows); got != api.OK || checked(rows) != api.OK {
				t.Errorf("Check of %s, %v: %v", name, rows, got)
			}
		}
		if got := orders.Check(order.turned().rows()); got != api.OK {
			t.Errorf("Check of %s turned round: %v", name, got)
		}
	}
}

func TestCheckOfOrdersWithoutJoinsOrMeets(t *testing.T) {
	for name, order := range others() {
		for seed := range uint32(4) {
			rows := order.renamed(shuffled(len(order), seed)).rows()
			if got := orders.Check(rows); got != api.ErrNone || checked(rows) != api.ErrNone {
				t.Errorf("Check of %s, %v: %v", name, rows, got)
			}
		}
		if got := orders.Check(order.turned().rows()); got != api.ErrNone {
			t.Errorf("Check of %s turned round: %v", name, got)
		}
	}
}

// TestCheckSeesAFaultAnywhere: one bit of a lattice is another one.
func TestCheckSeesAFaultAnywhere(t *testing.T) {
	for _, order := range []table{chain(7), sets(3), flat(6), divisors(12), pentagon(), bow()} {
		for i := range order {
			for bit := range 64 {
				rows := order.rows()
				rows[i] ^= 1 << bit
				if got, want := orders.Check(rows), checked(rows); got != want {
					t.Fatalf("Check(%v): %v, want %v", rows, got, want)
				}
			}
		}
	}
	for i := range 64 {
		rows := chain(64).rows()
		rows[i] ^= 1 << i
		if got := orders.Check(rows); got != api.ErrOrder {
			t.Errorf("Check of a chain of 64 without %d below itself: %v", i, got)
		}
		rows = chain(64).rows()
		rows[63] |= 1 << i
		want := api.ErrOrder
		if i == 63 {
			want = api.OK
		}
		if got := orders.Check(rows); got != want {
			t.Errorf("Check of a chain of 64 whose last one is below %d: %v", i, got)
		}
		if i < 63 {
			rows = chain(63).rows()
			rows[i] |= 1 << 63
			if got := orders.Check(rows); got != api.ErrArg {
				t.Errorf("Check of a chain of 63 with the bit 63 in row %d: %v", i, got)
			}
		}
	}
}

// P4.2

func TestBelowExamples(t *testing.T) {
	for _, c := range []struct {
		rows []uint64
		a, b uint64
		want bool
	}{
		{[]uint64{3, 2}, 0, 1, true},
		{[]uint64{3, 2}, 1, 0, false},
		{[]uint64{3, 2}, 0, 2, false},
		{[]uint64{3, 2}, 0, 0, true},
		{[]uint64{3, 2}, 1, 1, true},
		{[]uint64{3, 2}, 2, 0, false},
		{[]uint64{3, 2}, 2, 2, false},
		{nil, 0, 0, false},
		{[]uint64{}, 0, 0, false},
		{[]uint64{1}, 0, 0, true},
		{[]uint64{1}, 0, 64, false},
		{[]uint64{1}, 64, 0, false},
		{[]uint64{1}, 0, 1 << 32, false},
		{[]uint64{1}, 1 << 63, 0, false},
		{[]uint64{1}, math.MaxUint64, math.MaxUint64, false},
		// Bits of no label.
		{[]uint64{math.MaxUint64}, 0, 0, true},
		{[]uint64{math.MaxUint64}, 0, 1, false},
		{[]uint64{math.MaxUint64, 0}, 0, 1, true},
		{[]uint64{math.MaxUint64, 0}, 0, 63, false},
		// Rows that are no order.
		{[]uint64{0, 0}, 0, 0, false},
		{[]uint64{2, 1}, 0, 1, true},
		{[]uint64{2, 1}, 1, 0, true},
		{[]uint64{2, 4, 0}, 0, 2, false},
	} {
		if got := orders.Below(c.rows, c.a, c.b); got != c.want {
			t.Errorf("Below(%v, %d, %d): %v", c.rows, c.a, c.b, got)
		}
	}
}

// numbers: of labels, of none, and such that are labels' once they are cut.
func numbers() []uint64 {
	l := []uint64{math.MaxInt64, 1 << 63, 1<<63 | 1, math.MaxUint64, math.MaxUint64 - 1, 256, 257, 1 << 16, 1<<31 + 1, 1 << 32, 1<<32 + 1, 1 << 33}
	for i := range uint64(130) {
		l = append(l, i)
	}
	return l
}

// TestBelowOfAllNumbers: of rows of which each bit is another one than those beside it, fewer than there are labels, as many, and more.
func TestBelowOfAllNumbers(t *testing.T) {
	bit := func(a, b uint64) bool { return (a*a+3*b)%7 < 3 }
	for _, n := range []uint64{0, 1, 2, 5, 63, 64, 65, 66, 129, 1000} {
		rows := make([]uint64, n)
		for a := range n {
			for b := range uint64(64) {
				if bit(a, b) {
					rows[a] |= 1 << b
				}
			}
		}
		for _, a := range numbers() {
			for _, b := range numbers() {
				want := a < 64 && b < 64 && a < n && b < n && bit(a, b)
				if got := orders.Below(rows, a, b); got != want {
					t.Fatalf("Below of %d rows, %d, %d: %v", n, a, b, got)
				}
			}
		}
	}
}

func TestBelowOfOrders(t *testing.T) {
	for name, order := range lattices() {
		rows := order.rows()
		for a := range order {
			for b := range order {
				if got := orders.Below(rows, uint64(a), uint64(b)); got != order[a][b] {
					t.Fatalf("Below of %s, %d, %d: %v", name, a, b, got)
				}
			}
		}
	}
}

// P4.3

func TestCloseExamples(t *testing.T) {
	for _, c := range []struct {
		n     int
		pairs [][2]int
		want  []uint64
		e     api.Errno
	}{
		{3, [][2]int{{0, 1}, {1, 2}}, []uint64{7, 6, 4}, api.OK},
		{2, [][2]int{{0, 1}, {1, 0}}, nil, api.ErrOrder},
		{2, [][2]int{{0, 2}}, nil, api.ErrArg},
		{1, nil, []uint64{1}, api.OK},
		{1, [][2]int{}, []uint64{1}, api.OK},
		{1, [][2]int{{0, 0}}, []uint64{1}, api.OK},
		{3, nil, []uint64{1, 2, 4}, api.OK},
		{3, [][2]int{{1, 1}}, []uint64{1, 2, 4}, api.OK},
		{3, [][2]int{{1, 2}, {0, 1}}, []uint64{7, 6, 4}, api.OK},
		{3, [][2]int{{2, 1}, {1, 0}}, []uint64{1, 3, 7}, api.OK},
		{3, [][2]int{{0, 1}, {0, 1}, {0, 1}}, []uint64{3, 2, 4}, api.OK},
		{3, [][2]int{{0, 2}, {1, 2}}, []uint64{5, 6, 4}, api.OK},
		{4, [][2]int{{0, 1}, {0, 2}, {1, 3}, {2, 3}}, []uint64{15, 10, 12, 8}, api.OK},
		{3, [][2]int{{0, 1}, {1, 2}, {2, 0}}, nil, api.ErrOrder},
		{3, [][2]int{{2, 2}, {1, 2}, {2, 1}}, nil, api.ErrOrder},
		{5, [][2]int{{3, 4}, {4, 2}, {2, 3}, {0, 1}}, nil, api.ErrOrder},
		{0, nil, nil, api.ErrArg},
		{-1, nil, nil, api.ErrArg},
		{math.MinInt, nil, nil, api.ErrArg},
		{math.MaxInt, nil, nil, api.ErrArg},
		{65, nil, nil, api.ErrArg},
		{0, [][2]int{{0, 0}}, nil, api.ErrArg},
		{65, [][2]int{{0, 1}}, nil, api.ErrArg},
		{1 << 32, [][2]int{{0, 1}}, nil, api.ErrArg},
		{1, [][2]int{{0, 1}}, nil, api.ErrArg},
		{2, [][2]int{{2, 0}}, nil, api.ErrArg},
		{2, [][2]int{{2, 2}}, nil, api.ErrArg},
		{2, [][2]int{{-1, 0}}, nil, api.ErrArg},
		{2, [][2]int{{0, -1}}, nil, api.ErrArg},
		{2, [][2]int{{0, 1}, {1, math.MinInt}}, nil, api.ErrArg},
		{2, [][2]int{{0, 1}, {math.MaxInt, 1}}, nil, api.ErrArg},
		{2, [][2]int{{0, 1 << 32}}, nil, api.ErrArg},
		{2, [][2]int{{0, 64}}, nil, api.ErrArg},
		// Both errors apply.
		{2, [][2]int{{0, 1}, {1, 0}, {0, 2}}, nil, api.ErrArg},
		{2, [][2]int{{-5, 1}, {0, 1}, {1, 0}}, nil, api.ErrArg},
	} {
		if got, e := orders.Close(c.n, c.pairs); e != c.e || !slices.Equal(got, c.want) {
			t.Errorf("Close(%d, %v): %v %v, want %v %v", c.n, c.pairs, got, e, c.want, c.e)
		}
	}
}

func TestCloseOfHowManyLabelsThereAre(t *testing.T) {
	for n := -70; n < 200; n++ {
		got, e := orders.Close(n, nil)
		if n < 1 || n > api.MaxLabels {
			if e != api.ErrArg || len(got) != 0 {
				t.Errorf("Close of %d labels: %v %v", n, got, e)
			}
		} else if e != api.OK || !slices.Equal(got, apart(n).rows()) {
			t.Errorf("Close of %d labels: %v %v", n, got, e)
		}
	}
}

func TestCloseOfEachNumberThatMayNotBe(t *testing.T) {
	for _, n := range []int{1, 2, 5, 63, 64} {
		for _, other := range []int{-1, -2, -64, math.MinInt, math.MinInt32, n, n + 1, 64, 65, 128, 256, 1 << 32, math.MaxInt} {
			for at := range 4 {
				for side := range 2 {
					pairs := [][2]int{{0, 0}, {0, n - 1}, {n - 1, n - 1}, {0, 0}}
					pairs[at][side] = other
					if got, e := orders.Close(n, pairs); e != api.ErrArg || len(got) != 0 {
						t.Errorf("Close(%d, %v): %v %v", n, pairs, got, e)
					}
				}
			}
		}
	}
}

// allPairs: all pairs of n labels.
func allPairs(n int) [][2]int {
	var l [][2]int
	for a := range n {
		for b := range n {
			l = append(l, [2]int{a, b})
		}
	}
	return l
}

// someLists: pairs of labels, and of how many: all lists of pairs of three labels, in two orders; lists of pairs of four; lists of pairs of many labels, with no rule to be seen.
func someLists(try func(n int, pairs [][2]int)) {
	for all := range 1 << 9 {
		var pairs [][2]int
		for i, p := range allPairs(3) {
			if all>>i%2 == 1 {
				pairs = append(pairs, p)
			}
		}
		try(3, pairs)
		slices.Reverse(pairs)
		try(3, pairs)
	}
	for all := range 1 << 12 {
		l := allPairs(4)
		try(4, [][2]int{l[all%16], l[all>>4%16], l[all>>8]})
	}
	for seed := range uint32(300) {
		n := 2 + int(seed)%63
		by := shuffled(n, seed)
		var pairs [][2]int
		for i, a := range shuffled(n, seed+1000) {
			b := shuffled(n, seed+uint32(i)+2000)[0]
			// Without a pair that goes back there is an order.
			if b > a || seed%8 == 0 && i == 0 {
				pairs = append(pairs, [2]int{by[a], by[b]})
			}
		}
		try(n, pairs)
	}
}

func TestCloseOfAllSortsOfPairs(t *testing.T) {
	seen := map[api.Errno]int{}
	someLists(func(n int, pairs [][2]int) {
		want, wantE := closed(n, pairs)
		seen[wantE]++
		if got, e := orders.Close(n, pairs); e != wantE || !slices.Equal(got, want) {
			t.Fatalf("Close(%d, %v): %v %v, want %v %v", n, pairs, got, e, want, wantE)
		}
	})
	if seen[api.OK] < 100 || seen[api.ErrOrder] < 100 {
		t.Errorf("of the lists too many are of one kind: %v", seen)
	}
}

// TestCloseOfLongWays: pairs that lead from one label to each other one, in orders in which a walk from the first row to the last one sees little.
func TestCloseOfLongWays(t *testing.T) {
	for n := 1; n <= 64; n++ {
		for seed := range uint32(6) {
			by := shuffled(n, seed)
			var pairs [][2]int
			for _, a := range shuffled(n, seed+7) {
				if a+1 < n {
					pairs = append(pairs, [2]int{by[a], by[a+1]})
				}
			}
			want := chain(n).renamed(by).rows()
			if got, e := orders.Close(n, pairs); e != api.OK || !slices.Equal(got, want) {
				t.Fatalf("Close of a chain of %d: %v %v, want %v", n, got, e, want)
			}
			if got, e := orders.Close(n, append(pairs, [2]int{by[n-1], by[0]})); n > 1 && (e != api.ErrOrder || len(got) != 0) {
				t.Fatalf("Close of %d that lead round: %v %v", n, got, e)
			}
		}
	}
	for _, up := range []bool{true, false} {
		var pairs [][2]int
		for a := range 63 {
			if up {
				pairs = append(pairs, [2]int{a, a + 1})
			} else {
				pairs = append(pairs, [2]int{a + 1, a})
			}
		}
		want := chain(64)
		if !up {
			want = want.turned()
		}
		if got, e := orders.Close(64, pairs); e != api.OK || !slices.Equal(got, want.rows()) {
			t.Errorf("Close of 63 pairs, up %v: %v %v", up, got, e)
		}
	}
}

// TestCloseOfWhatIsNoLattice: an order is told, whether or not each two have a join.
func TestCloseOfWhatIsNoLattice(t *testing.T) {
	for name, order := range others() {
		var pairs [][2]int
		for _, p := range allPairs(len(order)) {
			if order[p[0]][p[1]] {
				pairs = append(pairs, p)
			}
		}
		got, e := orders.Close(len(order), pairs)
		if e != api.OK || !slices.Equal(got, order.rows()) {
			t.Errorf("Close of %s: %v %v", name, got, e)
		}
		if e := orders.Check(got); e != api.ErrNone {
			t.Errorf("Check of what Close told of %s: %v", name, e)
		}
	}
}

// P4.4

func TestWhatCloseTellsIsAnOrder(t *testing.T) {
	someLists(func(n int, pairs [][2]int) {
		rows, e := orders.Close(n, pairs)
		if e != api.OK {
			return
		}
		order, ok := tableOf(rows)
		if !ok || len(rows) != n || order.lacks() != "" {
			t.Fatalf("Close(%d, %v): %v, which lacks %s", n, pairs, rows, order.lacks())
		}
		for _, p := range pairs {
			if !orders.Below(rows, uint64(p[0]), uint64(p[1])) {
				t.Fatalf("Close(%d, %v): %v, without %v", n, pairs, rows, p)
			}
		}
		if e := orders.Check(rows); e != api.OK && e != api.ErrNone {
			t.Fatalf("Check of Close(%d, %v): %v", n, pairs, e)
		}
	})
}

func TestAPairThatItHasChangesNothing(t *testing.T) {
	for seed := range uint32(40) {
		n := 2 + int(seed)%15
		by := shuffled(n, seed)
		var pairs [][2]int
		for i := range n - 1 {
			if a := i - int(seed)%3; a >= 0 {
				pairs = append(pairs, [2]int{by[a], by[i+1]})
			}
		}
		rows, e := orders.Close(n, pairs)
		if e != api.OK {
			t.Fatalf("Close(%d, %v): %v", n, pairs, e)
		}
		for _, p := range allPairs(n) {
			if !orders.Below(rows, uint64(p[0]), uint64(p[1])) {
				continue
			}
			for _, more := range [][][2]int{slices.Concat(pairs, [][2]int{p}), slices.Concat([][2]int{p, p}, pairs)} {
				if got, e := orders.Close(n, more); e != api.OK || !slices.Equal(got, rows) {
					t.Fatalf("Close(%d, %v): %v %v, want %v", n, more, got, e, rows)
				}
			}
		}
	}
}

func TestAllPairsOfAnOrderAreThatOrder(t *testing.T) {
	for name, order := range lattices() {
		var pairs [][2]int
		for _, p := range allPairs(len(order)) {
			if order[p[0]][p[1]] {
				pairs = append(pairs, p)
			}
		}
		got, e := orders.Close(len(order), pairs)
		if e != api.OK || !slices.Equal(got, order.rows()) {
			t.Errorf("Close of %s: %v %v", name, got, e)
		}
		if e := orders.Check(got); e != api.OK {
			t.Errorf("Check of what Close told of %s: %v", name, e)
		}
	}
}

// R1

func TestEveryCallEndsAtGreatLists(t *testing.T) {
	rows := make([]uint64, 1000000)
	for i := range rows {
		rows[i] = math.MaxUint64
	}
	if e := orders.Check(rows); e != api.ErrArg {
		t.Errorf("Check of a million rows: %v", e)
	}
	if !orders.Below(rows, 63, 63) || orders.Below(rows, 64, 63) || orders.Below(rows, 999999, 0) {
		t.Error("Below of a million rows")
	}
	pairs := slices.Repeat([][2]int{{0, 1}, {62, 63}, {5, 5}}, 300000)
	want := apart(64)
	want[0][1], want[62][63] = true, true
	if got, e := orders.Close(64, pairs); e != api.OK || !slices.Equal(got, want.rows()) {
		t.Errorf("Close of a million pairs: %v %v", got, e)
	}
	pairs[len(pairs)-1][1] = 64
	if got, e := orders.Close(64, pairs); e != api.ErrArg || len(got) != 0 {
		t.Errorf("Close of a million pairs of which the last one may not be: %v %v", got, e)
	}
}

// R4

// handed: rows as a caller may hand them in: of lattices, of other orders, of no order, of too many.
func handed() [][]uint64 {
	l := [][]uint64{{}, {0}, {1}, {2}, {3, 3}, {3, 6, 4}, {math.MaxUint64}, make([]uint64, 65)}
	for _, order := range lattices() {
		l = append(l, order.rows())
	}
	for _, order := range others() {
		l = append(l, order.rows())
	}
	return l
}

// handedPairs: pairs as a caller may hand them in.
func handedPairs() [][][2]int {
	return [][][2]int{{}, {{0, 0}}, {{2, 1}, {1, 0}}, {{0, 1}, {1, 2}}, {{1, 2}, {0, 1}, {1, 2}}, {{0, 1}, {1, 0}}, {{0, 1}, {1, 3}}, {{-1, 0}}}
}

// roomy: a list with spare room behind it, as whole (l and its room) and as l.
func roomy[T any](l []T, room int, spare T) (whole, part []T) {
	whole = slices.Clip(slices.Concat(l, slices.Repeat([]T{spare}, room)))
	return whole, whole[:len(l)]
}

func TestWhatIsHandedInStaysAsItWas(t *testing.T) {
	for _, room := range []int{0, 1, 7, 100} {
		for _, rows := range handed() {
			whole, part := roomy(rows, room, uint64(12345))
			was := slices.Clone(whole)
			orders.Check(part)
			orders.Below(part, 0, uint64(len(rows)/2))
			orders.Below(part, math.MaxUint64, 0)
			if !slices.Equal(whole, was) {
				t.Errorf("%v with room for %d became %v", rows, room, whole)
			}
		}
		for _, pairs := range handedPairs() {
			whole, part := roomy(pairs, room, [2]int{77, 78})
			was := slices.Clone(whole)
			for _, n := range []int{-1, 1, 2, 3, 4, 64, 65} {
				orders.Close(n, part)
			}
			if !slices.Equal(whole, was) {
				t.Errorf("%v with room for %d became %v", pairs, room, whole)
			}
		}
	}
}

func TestSpareRoomIsNotRead(t *testing.T) {
	for _, rows := range handed() {
		want := checked(rows)
		for _, spare := range []uint64{0, 1, math.MaxUint64} {
			_, part := roomy(rows, 70, spare)
			if got := orders.Check(part); got != want {
				t.Errorf("Check of %v with room: %v, want %v", rows, got, want)
			}
			if orders.Below(part, uint64(len(rows)), 0) || orders.Below(part, 0, uint64(len(rows))) {
				t.Errorf("Below of %v with room tells of no label", rows)
			}
		}
	}
	for _, spare := range [][2]int{{0, 1}, {1, 0}, {-1, 9}} {
		_, part := roomy([][2]int{{2, 1}}, 70, spare)
		if got, e := orders.Close(3, part); e != api.OK || !slices.Equal(got, []uint64{1, 2, 6}) {
			t.Errorf("Close of one pair with %v in its room: %v %v", spare, got, e)
		}
	}
}

func TestAnAnswerIsNewMemory(t *testing.T) {
	for _, n := range []int{1, 3, 5, 63, 64} {
		for _, pairs := range [][][2]int{nil, {{0, 0}}, {{0, n / 2}, {n / 2, n - 1}}} {
			whole, part := roomy(pairs, 5, [2]int{0, 0})
			was := slices.Clone(whole)
			want, _ := closed(n, pairs)
			one, e := orders.Close(n, part)
			other, e2 := orders.Close(n, part)
			if e != api.OK || e2 != api.OK {
				t.Fatalf("Close(%d, %v): %v, %v", n, pairs, e, e2)
			}
			for i := range one[:cap(one)] {
				one[:cap(one)][i] = 99
			}
			if !slices.Equal(other, want) {
				t.Errorf("two answers of Close(%d, %v) share memory", n, pairs)
			}
			if !slices.Equal(whole, was) {
				t.Errorf("Close(%d, %v) shares memory with what was handed in", n, pairs)
			}
			otherWhole := slices.Clone(other[:cap(other)])
			for i := range whole {
				whole[i] = [2]int{55, 66}
			}
			if !slices.Equal(other[:cap(other)], otherWhole) {
				t.Errorf("Close(%d, %v) keeps what was handed in", n, pairs)
			}
			if third, _ := orders.Close(n, pairs); !slices.Equal(third, want) {
				t.Errorf("Close(%d, %v) hands out what it keeps", n, pairs)
			}
		}
	}
}

func TestEmptyAndNilMeanTheSame(t *testing.T) {
	for _, rows := range [][]uint64{nil, {}, make([]uint64, 0, 5), chain(3).rows()[:0]} {
		if e := orders.Check(rows); e != api.ErrArg {
			t.Errorf("Check of no rows: %v", e)
		}
		if orders.Below(rows, 0, 0) {
			t.Error("Below of no rows")
		}
	}
	for _, pairs := range [][][2]int{nil, {}, make([][2]int, 0, 5), allPairs(3)[:0]} {
		for _, n := range []int{0, 1, 2, 64, 65} {
			got, e := orders.Close(n, pairs)
			want, wantE := orders.Close(n, nil)
			if e != wantE || !slices.Equal(got, want) {
				t.Errorf("Close(%d) of no pairs: %v %v, want %v %v", n, got, e, want, wantE)
			}
		}
	}
}

// R5

func TestAnswersHangOnArgumentsAlone(t *testing.T) {
	var all sync.WaitGroup
	for range 4 {
		all.Go(func() {
			for range 3 {
				for _, rows := range handed() {
					if got, want := orders.Check(rows), checked(rows); got != want {
						t.Errorf("Check(%v): %v, want %v", rows, got, want)
					}
				}
				for _, pairs := range handedPairs()[:6] {
					want, wantE := closed(3, pairs)
					if got, e := orders.Close(3, pairs); e != wantE || !slices.Equal(got, want) {
						t.Errorf("Close(3, %v): %v %v, want %v %v", pairs, got, e, want, wantE)
					}
				}
			}
		})
	}
	all.Wait()
}
