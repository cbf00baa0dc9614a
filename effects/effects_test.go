package effects_test

import (
	"fmt"
	"math"
	"slices"
	"sync"
	"testing"

	"cartouche/api"
	"cartouche/effects"
)

// A row of 64 says of each effect whether it is in a set. What the tests ask for is told effect by effect, as the document words it, where the program takes all bits at once.
type row [64]bool

func told(has func(i int) bool) (r row) {
	for i := range r {
		r[i] = has(i)
	}
	return r
}

// rowOf: the row of a set's bits.
func rowOf(set uint64) row {
	var r row
	for i := range r {
		r[i] = set%2 == 1
		set /= 2
	}
	return r
}

// set: the row's bits.
func (r row) set() uint64 {
	sum, place := uint64(0), uint64(1)
	for _, in := range r {
		if in {
			sum += place
		}
		place *= 2
	}
	return sum
}

// isSet: whether that has bits of n effects alone.
func isSet(n int, a uint64) bool {
	for i, in := range rowOf(a) {
		if in && i >= n {
			return false
		}
	}
	return true
}

// An answer is what a sort tells of two numbers.
type answer struct {
	hasA, hasB, below bool
	join, meet        uint64
}

// want: what sets of n effects tell of two numbers.
func want(n int, a, b uint64) answer {
	w := answer{hasA: isSet(n, a), hasB: isSet(n, b)}
	if !w.hasA || !w.hasB {
		return w
	}
	one, other := rowOf(a), rowOf(b)
	w.below = true
	for i := range one {
		if one[i] && !other[i] {
			w.below = false
		}
	}
	w.join = told(func(i int) bool { return one[i] || other[i] }).set()
	w.meet = told(func(i int) bool { return one[i] && other[i] }).set()
	return w
}

func got(x *effects.Effects, a, b uint64) answer {
	return answer{x.Has(a), x.Has(b), x.Below(a, b), x.Join(a, b), x.Meet(a, b)}
}

// full: the set of n effects.
func full(n int) uint64 { return told(func(i int) bool { return i < n }).set() }

func made(t *testing.T, n int) *effects.Effects {
	t.Helper()
	x, e := effects.New(n)
	if x == nil || e != api.OK {
		t.Fatalf("New(%d): %v, %v", n, x, e)
	}
	return x
}

// is: faults t, if x answers anything of two numbers that sets of n effects do not.
func is(t *testing.T, name string, x *effects.Effects, n int, a, b uint64) {
	t.Helper()
	if g, w := got(x, a, b), want(n, a, b); g != w {
		t.Fatalf("%s, of %d, asked of %#x and %#x: %+v, want %+v", name, n, a, b, g, w)
	}
}

// ends: faults t, if bottom or top of x is not that of sets of n effects.
func ends(t *testing.T, name string, x *effects.Effects, n int) {
	t.Helper()
	if bottom, top := x.Bottom(), x.Top(); bottom != 0 || top != full(n) {
		t.Fatalf("%s, of %d: Bottom %#x, Top %#x, want 0, %#x", name, n, bottom, top, full(n))
	}
}

// numbers: sets of n effects, and such as have a bit of no effect: of each place, at the ends, with no rule to be seen in them.
func numbers(n int) []uint64 {
	l := []uint64{0, math.MaxUint64, math.MaxUint64 - 1, math.MaxInt64, math.MaxUint32, 0x5555555555555555, 0xaaaaaaaaaaaaaaaa, full(n), full(n) / 2, full(n) / 3, full(n) - full(n/2)}
	for i := range 64 {
		one := uint64(1) << i
		l = append(l, one, one-1, one|1, full(n)|one, full(n)&^one)
	}
	seed := uint64(n + 1)
	for range 20 {
		seed = seed*6364136223846793005 + 1442695040888963407
		l = append(l, seed, seed&full(n))
	}
	slices.Sort(l)
	return slices.Compact(l)
}

// isNone: faults t, if what is there has any values.
func isNone(t *testing.T, name string, x *effects.Effects) {
	t.Helper()
	l := numbers(6)
	for _, a := range l {
		for _, b := range l {
			if g := got(x, a, b); g != (answer{}) {
				t.Fatalf("%s, asked of %#x and %#x: %+v", name, a, b, g)
			}
		}
	}
	if x.Bottom() != 0 || x.Top() != 0 {
		t.Fatalf("%s: Bottom %#x, Top %#x", name, x.Bottom(), x.Top())
	}
}

func TestExamples(t *testing.T) {
	x := made(t, 2)
	if !x.Has(3) || x.Has(4) || !x.Below(1, 3) || x.Below(2, 1) {
		t.Errorf("Has(3), Has(4), Below(1, 3), Below(2, 1): %v, %v, %v, %v", x.Has(3), x.Has(4), x.Below(1, 3), x.Below(2, 1))
	}
	if l := []uint64{x.Join(1, 2), x.Meet(3, 2), x.Top(), x.Join(1, 4)}; !slices.Equal(l, []uint64{3, 2, 3, 0}) {
		t.Errorf("Join(1, 2), Meet(3, 2), Top, Join(1, 4): %v", l)
	}
	none := made(t, 0)
	if none.Top() != 0 || !none.Has(0) {
		t.Errorf("New(0): Top, Has(0): %d, %v", none.Top(), none.Has(0))
	}
	for _, n := range []int{65, -1} {
		if x, e := effects.New(n); x != nil || e != api.ErrArg {
			t.Errorf("New(%d): %v, %v", n, x, e)
		}
	}
}

// P6.1

func TestNewOfHowManyEffectsThereAre(t *testing.T) {
	for n := -200; n <= 200; n++ {
		x, e := effects.New(n)
		if n < 0 || n > api.MaxEffects {
			if x != nil || e != api.ErrArg {
				t.Errorf("New(%d): %v, %v", n, x, e)
			}
			isNone(t, fmt.Sprintf("what New(%d) tells", n), x)
			continue
		}
		if x == nil || e != api.OK {
			t.Fatalf("New(%d): %v, %v", n, x, e)
		}
		ends(t, "what New tells", x, n)
		for i := range 64 {
			if g := x.Has(1 << i); g != (i < n) {
				t.Errorf("New(%d): Has of effect %d alone: %v", n, i, g)
			}
		}
	}
}

// TestNewOfNumbersThatMayNotBe: the least and the greatest ones, and such that may be once they are cut.
func TestNewOfNumbersThatMayNotBe(t *testing.T) {
	l := []int{math.MinInt, math.MinInt + 1, math.MinInt + 64, math.MaxInt, math.MaxInt - 1, math.MaxInt - 63}
	for power := 128; power > 0; power *= 2 {
		l = append(l, power, power+1, power+64, power-1, -power, -power+1, -power+64, -power-1)
	}
	for _, n := range l {
		if x, e := effects.New(n); x != nil || e != api.ErrArg {
			t.Errorf("New(%d): %v, %v", n, x, e)
		}
	}
}

// P6.2

// TestFewEffects: all numbers of two bits more than there are effects.
func TestFewEffects(t *testing.T) {
	for n := range 6 {
		x := made(t, n)
		ends(t, "few effects", x, n)
		for a := range uint64(1) << (n + 2) {
			for b := range uint64(1) << (n + 2) {
				is(t, "few effects", x, n, a, b)
			}
		}
	}
}

func TestAnyNumbers(t *testing.T) {
	for n := range api.MaxEffects + 1 {
		x, l := made(t, n), numbers(n)
		for i, a := range l {
			is(t, "any numbers", x, n, a, a)
			for _, b := range []uint64{0, 1, full(n), full(n) &^ a, a &^ 1, a | 1, a ^ 1<<(i%64), math.MaxUint64} {
				is(t, "any numbers", x, n, a, b)
				is(t, "any numbers", x, n, b, a)
			}
		}
		if n%9 > 1 {
			continue
		}
		for _, a := range l {
			for _, b := range l {
				is(t, "any numbers", x, n, a, b)
			}
		}
	}
}

func TestWrittenSets(t *testing.T) {
	const high = 1 << 63
	for _, c := range []struct {
		n          int
		a, b       uint64
		below      bool
		join, meet uint64
	}{
		{0, 0, 0, true, 0, 0},
		{1, 0, 1, true, 1, 0},
		{1, 1, 0, false, 1, 0},
		{1, 1, 1, true, 1, 1},
		{3, 0, 7, true, 7, 0},
		{3, 7, 0, false, 7, 0},
		{3, 7, 7, true, 7, 7},
		{3, 5, 5, true, 5, 5},
		{3, 5, 7, true, 7, 5},
		// Of these two each has one that the other one has not.
		{3, 3, 6, false, 7, 2},
		{3, 6, 3, false, 7, 2},
		// Of these, too, though one number is less.
		{3, 1, 2, false, 3, 0},
		{64, 0, math.MaxUint64, true, math.MaxUint64, 0},
		{64, math.MaxUint64, math.MaxUint64, true, math.MaxUint64, math.MaxUint64},
		{64, high, high | 1, true, high | 1, high},
		{64, high | 1, high | 2, false, high | 3, high},
		{64, high, math.MaxInt64, false, math.MaxUint64, 0},
	} {
		x := made(t, c.n)
		if g, w := got(x, c.a, c.b), (answer{true, true, c.below, c.join, c.meet}); g != w {
			t.Errorf("%d effects, %#x and %#x: %+v, want %+v", c.n, c.a, c.b, g, w)
		}
	}
}

// TestNumbersWithABitOfNoEffect: the first one, the second one, both; beside sets that would answer otherwise.
func TestNumbersWithABitOfNoEffect(t *testing.T) {
	for n := range api.MaxEffects {
		x := made(t, n)
		for i := n; i < 64; i++ {
			for _, set := range []uint64{0, 1, full(n) / 2, full(n)} {
				set &= full(n)
				for _, bad := range []uint64{1 << i, 1<<i | set, 1<<i | full(n), math.MaxUint64} {
					for _, g := range []answer{got(x, bad, set), got(x, set, bad), got(x, bad, bad)} {
						if g.hasA && g.hasB || g.below || g.join != 0 || g.meet != 0 {
							t.Fatalf("%d effects, %#x and %#x: %+v", n, bad, set, g)
						}
					}
					if x.Has(bad) || !x.Has(set) {
						t.Fatalf("%d effects: Has(%#x), Has(%#x): %v, %v", n, bad, set, x.Has(bad), x.Has(set))
					}
				}
			}
		}
	}
}

// TestOneOfNoEffects: its one set is the empty one, which nil and a zero struct have not.
func TestOneOfNoEffects(t *testing.T) {
	x := made(t, 0)
	if g, w := got(x, 0, 0), (answer{hasA: true, hasB: true, below: true}); g != w {
		t.Errorf("New(0), asked of 0 and 0: %+v, want %+v", g, w)
	}
	for _, a := range numbers(0) {
		if g := x.Has(a); g != (a == 0) {
			t.Errorf("New(0): Has(%#x): %v", a, g)
		}
	}
	var none *effects.Effects
	if none.Has(0) || none.Below(0, 0) || new(effects.Effects).Has(0) || new(effects.Effects).Below(0, 0) {
		t.Error("nil, or a zero struct, has the empty set")
	}
}

// P6.3

func TestWhatFollows(t *testing.T) {
	for n := range api.MaxEffects + 1 {
		x := made(t, n)
		var sets []uint64
		for i, a := range numbers(n) {
			if n < 7 || i%5 == n%5 || a&^full(n) == 0 && i%3 == 0 {
				sets = append(sets, a&full(n))
			}
		}
		slices.Sort(sets)
		for _, a := range slices.Compact(sets) {
			for _, b := range sets {
				join, meet, below := x.Join(a, b), x.Meet(a, b), x.Below(a, b)
				if below != (join == b) || below != (meet == a) {
					t.Fatalf("%d effects, %#x and %#x: below %v, join %#x, meet %#x", n, a, b, below, join, meet)
				}
				if !x.Has(join) || !x.Has(meet) || !x.Below(a, join) || !x.Below(b, join) || !x.Below(meet, a) || !x.Below(meet, b) {
					t.Fatalf("%d effects, %#x and %#x: join %#x, meet %#x do not lie around them", n, a, b, join, meet)
				}
			}
			if !x.Below(x.Bottom(), a) || !x.Below(a, x.Top()) || !x.Below(a, a) {
				t.Fatalf("%d effects: %#x does not lie between Bottom, %#x, and Top, %#x", n, a, x.Bottom(), x.Top())
			}
		}
	}
}

// R1

func TestEveryCallEndsAtAnyNumbers(t *testing.T) {
	seed := uint64(1)
	next := func() uint64 {
		seed = seed*6364136223846793005 + 1442695040888963407
		return seed>>32 | seed<<32
	}
	for range 20000 {
		n := int(next())
		if next()%2 == 0 {
			n %= 70
		}
		a, b := next()>>(next()%64), next()>>(next()%64)
		x, e := effects.New(n)
		if n < 0 || n > api.MaxEffects {
			if x != nil || e != api.ErrArg || got(x, a, b) != (answer{}) {
				t.Fatalf("New(%d): %v, %v; of %#x and %#x: %+v", n, x, e, a, b, got(x, a, b))
			}
			continue
		}
		if x == nil || e != api.OK {
			t.Fatalf("New(%d): %v, %v", n, x, e)
		}
		is(t, "any numbers at all", x, n, a, b)
		ends(t, "any numbers at all", x, n)
	}
}

// R3

func TestNilAndAZeroStructHaveNoValues(t *testing.T) {
	isNone(t, "nil", nil)
	isNone(t, "a zero struct", &effects.Effects{})
	isNone(t, "a new one", new(effects.Effects))
}

// R5

func TestTwoObjectsShareNothing(t *testing.T) {
	var all []*effects.Effects
	seen := map[*effects.Effects]bool{}
	counts := []int{0, 0, 1, 1, 2, 63, 64, 64, 3, 2, 0}
	for _, n := range counts {
		x := made(t, n)
		if seen[x] {
			t.Errorf("New(%d) hands out an object a second time", n)
		}
		seen[x] = true
		all = append(all, x)
		effects.New(65)
		effects.New(-1)
	}
	for range 2 {
		for i, n := range counts {
			ends(t, "one beside others", all[i], n)
			for _, a := range numbers(n) {
				is(t, "one beside others", all[i], n, a, full(n)/2)
				is(t, "one beside others", all[i], n, full(n), a)
			}
		}
	}
}

// TestAnswersHangOnNoOtherCall: objects are made and asked at the same time, one of them by all.
func TestAnswersHangOnNoOtherCall(t *testing.T) {
	shared := made(t, 7)
	var done sync.WaitGroup
	for worker := range uint64(8) {
		done.Go(func() {
			for i := range uint64(500) {
				n := int((i*7 + worker) % (api.MaxEffects + 1))
				x, e := effects.New(n)
				if e != api.OK {
					t.Errorf("New(%d): %v", n, e)
					return
				}
				a, b := i*0x9e3779b97f4a7c15>>(i%64), (i+worker)*0xc2b2ae3d27d4eb4f>>(worker*8)
				if g, w := got(x, a, b), want(n, a, b); g != w {
					t.Errorf("%d effects beside others, %#x and %#x: %+v, want %+v", n, a, b, g, w)
				}
				if g, w := got(shared, i%256, worker*16), want(7, i%256, worker*16); g != w {
					t.Errorf("one that all ask, %#x and %#x: %+v, want %+v", i%256, worker*16, g, w)
				}
			}
		})
	}
	done.Wait()
}
