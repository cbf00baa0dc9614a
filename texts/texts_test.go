package texts_test

import (
	"math"
	"slices"
	"strconv"
	"strings"
	"testing"

	"cartouche/api"
	"cartouche/texts"
)

// before: whether a is ahead of b, byte by byte; worked out another way than the program does.
func before(a, b string) bool {
	for i := 0; i < len(a) && i < len(b); i++ {
		if a[i] != b[i] {
			return a[i] < b[i]
		}
	}
	return len(a) < len(b)
}

// laid: the texts, each once, each laid into its place among those that are there.
func laid(l []string) []string {
	var out []string
	for _, s := range l {
		at := 0
		for at < len(out) && before(out[at], s) {
			at++
		}
		if at == len(out) || out[at] != s {
			out = slices.Insert(out, at, s)
		}
	}
	return out
}

// edges: an empty text, texts of which one is the beginning of another one, great and small letters, bytes from 128 on, of UTF-8 and of none. They rise.
func edges() []string {
	return []string{"", "\x00", "\x00\x00", "0", "A", "Z", "_", "a", "a\x00", "aa", "ab", "b", "z", "\x7f", "\x80", "\xc3", "\u00e9", "\uff21", "\U0001f600", "\xff", "\xffa", "\xff\xff"}
}

// lists: all lists of up to most texts of these.
func lists(most int, of ...string) [][]string {
	all := [][]string{nil}
	for from := 0; most > 0; most-- {
		end := len(all)
		for _, l := range all[from:end] {
			for _, s := range of {
				all = append(all, slices.Concat(l, []string{s}))
			}
		}
		from = end
	}
	return all
}

// someLists: all short lists of a few texts, and of two edges each; and long ones.
func someLists() [][]string {
	all := lists(4, "", "a", "ab", "b", "\xff", "\u00e9")
	all = append(all, lists(2, edges()...)...)
	return append(all, edges(), mixed(300, 40), mixed(2000, 5000), slices.Repeat([]string{"same"}, 500))
}

// mixed: count texts with no rule to be seen in their order, of kinds ones; the same ones each time.
func mixed(count int, kinds uint32) []string {
	l := make([]string, count)
	seed := uint32(count)
	for i := range l {
		seed = seed*1664525 + 1013904223
		l[i] = "n" + strconv.Itoa(int(seed>>8%kinds))
	}
	return l
}

func TestTheEdgesRise(t *testing.T) {
	l := edges()
	for i := 1; i < len(l); i++ {
		if !before(l[i-1], l[i]) {
			t.Errorf("%q is not ahead of %q", l[i-1], l[i])
		}
	}
}

// P3.1

func TestSortOfWrittenLists(t *testing.T) {
	for _, c := range []struct{ l, want []string }{
		{[]string{"b", "a", "b"}, []string{"a", "b"}},
		{nil, nil},
		{[]string{}, nil},
		{[]string{""}, []string{""}},
		{[]string{"", ""}, []string{""}},
		{[]string{"a", "", "b"}, []string{"", "a", "b"}},
		{[]string{"a", "a", "a"}, []string{"a"}},
		{[]string{"a", "b", "a", "b", "a"}, []string{"a", "b"}},
		{[]string{"abc", "ab", "a", "abcd"}, []string{"a", "ab", "abc", "abcd"}},
		{[]string{"b", "ab"}, []string{"ab", "b"}},
		{[]string{"b", "B", "a", "A", "_", "1"}, []string{"1", "A", "B", "_", "a", "b"}},
		{[]string{"10", "9", "1"}, []string{"1", "10", "9"}},
		{[]string{"\xff", "\x80", "\x7f", "\x00"}, []string{"\x00", "\x7f", "\x80", "\xff"}},
		// By their bytes an encoded rune is ahead of a lone byte 255, and one of three bytes ahead of one of four.
		{[]string{"\xff", "\U0001f600", "\uff21", "\u00e9", "z"}, []string{"z", "\u00e9", "\uff21", "\U0001f600", "\xff"}},
	} {
		if got := texts.Sort(c.l); !slices.Equal(got, c.want) {
			t.Errorf("Sort(%q): %q, want %q", c.l, got, c.want)
		}
	}
}

func TestSortOfAllSortsOfLists(t *testing.T) {
	for _, l := range someLists() {
		if got, want := texts.Sort(l), laid(l); !slices.Equal(got, want) {
			t.Fatalf("Sort(%q): %q, want %q", l, got, want)
		}
	}
}

func TestSortOfTheEdgesBackwards(t *testing.T) {
	l := slices.Concat(edges(), edges())
	slices.Reverse(l)
	if got := texts.Sort(l); !slices.Equal(got, edges()) {
		t.Errorf("Sort: %q", got)
	}
}

// P3.2

func TestFindInWrittenLists(t *testing.T) {
	for _, c := range []struct {
		l     []string
		s     string
		at    int
		there bool
	}{
		{[]string{"a", "c"}, "b", 1, false},
		{[]string{"a", "c"}, "c", 1, true},
		{[]string{"a", "c"}, "a", 0, true},
		{[]string{"a", "c"}, "", 0, false},
		{[]string{"a", "c"}, "d", 2, false},
		{nil, "a", 0, false},
		{[]string{}, "", 0, false},
		{nil, "", 0, false},
		{[]string{""}, "", 0, true},
		{[]string{"", "a"}, "", 0, true},
		{[]string{"", "a"}, "a", 1, true},
		{[]string{"ab", "abc"}, "a", 0, false},
		{[]string{"a", "abc"}, "ab", 1, false},
		{[]string{"a", "ab", "abc"}, "abc", 2, true},
		{[]string{"a", "ab"}, "abc", 2, false},
		{[]string{"a", "\x80", "\xff"}, "\x81", 2, false},
		{[]string{"a", "\u00e9", "\xff"}, "\xff", 2, true},
		{[]string{"A", "a"}, "_", 1, false},
		// Lists that do not rise.
		{[]string{"c", "a"}, "b", 0, false},
		{[]string{"c", "a"}, "a", 0, false},
		{[]string{"c", "a"}, "c", 0, true},
		{[]string{"c", "a"}, "d", 2, false},
		{[]string{"a", "c", "b"}, "b", 1, false},
		{[]string{"a", "c", "a", "c"}, "c", 1, true},
		{[]string{"a", "d", "a", "b", "c"}, "c", 1, false},
		{[]string{"a", "a", "b", "b"}, "b", 2, true},
		{[]string{"a", "a"}, "a", 0, true},
		{[]string{"b", "a", "c"}, "c", 2, true},
		{[]string{"b", "a", "c", "a"}, "c", 2, true},
		{[]string{"z", "a", "b", "c", "d", "e", "f"}, "f", 0, false},
		{[]string{"a", "b", "c", "d", "e", "f", "a"}, "g", 7, false},
	} {
		if at, there := texts.Find(c.l, c.s); at != c.at || there != c.there {
			t.Errorf("Find(%q, %q): %d %v, want %d %v", c.l, c.s, at, there, c.at, c.there)
		}
	}
}

// TestFindOfTextsThatRise: how many are ahead, all of them looked at.
func TestFindOfTextsThatRise(t *testing.T) {
	for _, l := range [][]string{nil, {"a"}, edges(), edges()[1:], edges()[3:15], laid(mixed(300, 40)), laid(mixed(900, 5000))} {
		for _, s := range slices.Concat(edges(), l, []string{"n", "n1", "n10x", "n4999"}) {
			count := 0
			for _, other := range l {
				if before(other, s) {
					count++
				}
			}
			if at, there := texts.Find(l, s); at != count || there != slices.Contains(l, s) {
				t.Fatalf("Find(%q, %q): %d %v, want %d %v", l, s, at, there, count, slices.Contains(l, s))
			}
		}
	}
}

// TestFindOfAnyTexts: how many of the first ones are ahead, and which one is behind these.
func TestFindOfAnyTexts(t *testing.T) {
	for _, l := range someLists() {
		for _, s := range []string{"", "a", "aa", "ab", "abc", "b", "n7", "same", "\u00e9", "\xff", "\xff\xff"} {
			end := 0
			for end < len(l) && before(l[end], s) {
				end++
			}
			next := end < len(l) && l[end] == s
			if at, there := texts.Find(l, s); at != end || there != next {
				t.Fatalf("Find(%q, %q): %d %v, want %d %v", l, s, at, there, end, next)
			}
		}
	}
}

// P3.3: Sorted

func TestSortedOfWrittenLists(t *testing.T) {
	for _, c := range []struct {
		l    []string
		want bool
	}{
		{nil, true},
		{[]string{}, true},
		{[]string{""}, true},
		{[]string{"b"}, true},
		{[]string{"a", "a"}, false},
		{[]string{"", ""}, false},
		{[]string{"", "a"}, true},
		{[]string{"a", ""}, false},
		{[]string{"a", "b", "c"}, true},
		{[]string{"a", "c", "b"}, false},
		{[]string{"b", "a", "c"}, false},
		{[]string{"a", "b", "b"}, false},
		{[]string{"a", "b", "a"}, false},
		{[]string{"a", "ab", "abc"}, true},
		{[]string{"ab", "a"}, false},
		{[]string{"a", "Z"}, false},
		{[]string{"Z", "a"}, true},
		{[]string{"10", "9"}, true},
		{[]string{"9", "10"}, false},
		{[]string{"z", "\x80"}, true},
		{[]string{"\x80", "z"}, false},
		{[]string{"\u00e9", "\xff"}, true},
		{[]string{"\xff", "\u00e9"}, false},
		{edges(), true},
	} {
		if got := texts.Sorted(c.l); got != c.want {
			t.Errorf("Sorted(%q): %v", c.l, got)
		}
	}
}

func TestSortedOfAllSortsOfLists(t *testing.T) {
	for _, l := range append(someLists(), laid(mixed(900, 5000))) {
		want := true
		for i := range l {
			want = want && (i == 0 || before(l[i-1], l[i]))
		}
		if got := texts.Sorted(l); got != want {
			t.Fatalf("Sorted(%q): %v", l, got)
		}
	}
}

func TestSortedSeesAFaultAnywhere(t *testing.T) {
	for i := range len(edges()) - 1 {
		l := edges()
		l[i] = l[i+1]
		if texts.Sorted(l) {
			t.Errorf("Sorted of the same text at %d and behind it", i)
		}
		l = edges()
		l[i], l[i+1] = l[i+1], l[i]
		if texts.Sorted(l) {
			t.Errorf("Sorted of texts that fall at %d", i)
		}
	}
}

// P3.3: Name

const (
	letters = "abcdefghijklmnopqrstuvwxyzABCDEFGHIJKLMNOPQRSTUVWXYZ"
	others  = "0123456789_"
)

func TestNameOfWrittenTexts(t *testing.T) {
	long := strings.Repeat("a", 200)
	for _, c := range []struct {
		s    string
		want bool
	}{
		{"a1_", true},
		{"1a", false},
		{"", false},
		{long[:33], false},
		{long[:32], true},
		{long[:31], true},
		{long, false},
		{"a", true},
		{"Z", true},
		{"1", false},
		{"_", false},
		{"_a", false},
		{"a_", true},
		{"a9", true},
		{"a__1", true},
		{"Abc_9zZ", true},
		{"a b", false},
		{" a", false},
		{"a ", false},
		{"a-b", false},
		{"a.b", false},
		{"a\n", false},
		{"a\x00", false},
		{"\x00", false},
		// Letters and digits of other alphabets, and those that fold to ours.
		{"\u00e9", false},
		{"a\u00e9", false},
		{"\uff21", false},
		{"a\uff21", false},
		{"a\u0661", false},
		{"\u017f", false},
		{"a\u212a", false},
		{"a\u203f", false},
		// Runes whose lowest eight bits are those of a letter.
		{"\u0161", false},
		{"a\u0161", false},
		{"a\U00010061", false},
		// Bytes that are no UTF-8, and the rune that stands for them.
		{"\x80", false},
		{"a\x80", false},
		{"a\xff", false},
		{"a\xc3", false},
		{"a\xc3b", false},
		{"a\xe1\x80b", false},
		{"a\ufffd", false},
		{long[:30] + "\u00e9", false},
		{long[:31] + "\u00e9", false},
		{long[:32] + "\u00e9", false},
	} {
		if got := texts.Name(c.s); got != c.want {
			t.Errorf("Name(%q): %v", c.s, got)
		}
	}
}

func TestNameByItsLength(t *testing.T) {
	for size := range 200 {
		want := size >= 1 && size <= api.MaxName
		if got := texts.Name(strings.Repeat("q", size)); got != want {
			t.Errorf("Name of %d letters: %v", size, got)
		}
		if got := texts.Name(strings.Repeat("\u00e9", size)); got {
			t.Errorf("Name of %d letters of two bytes", size)
		}
	}
	for _, size := range []int{255, 256, 257, 288, 65537, api.MaxText + 1} {
		if texts.Name(strings.Repeat("q", size)) {
			t.Errorf("Name of %d letters", size)
		}
	}
}

// TestNameWithEachByteAtEachPlace: one byte of a name is another one.
func TestNameWithEachByteAtEachPlace(t *testing.T) {
	for _, size := range []int{1, 2, 3, api.MaxName - 1, api.MaxName} {
		for at := range size {
			for c := range 256 {
				b := []byte(strings.Repeat("m", size))
				b[at] = byte(c)
				want := strings.IndexByte(letters, byte(c)) >= 0 || at > 0 && strings.IndexByte(others, byte(c)) >= 0
				if got := texts.Name(string(b)); got != want {
					t.Fatalf("Name(%q): %v, want %v", b, got, want)
				}
			}
		}
	}
}

func TestNameOfAllPairsOfBytes(t *testing.T) {
	for a := range 256 {
		for b := range 256 {
			want := strings.IndexByte(letters, byte(a)) >= 0 && strings.IndexByte(letters+others, byte(b)) >= 0
			if got := texts.Name(string([]byte{byte(a), byte(b)})); got != want {
				t.Fatalf("Name of the bytes %d %d: %v, want %v", a, b, got, want)
			}
		}
	}
}

func TestNameOfEachRuneFromOneByteOn(t *testing.T) {
	for r := rune(128); r <= 0x10ffff; r++ {
		if texts.Name("a"+string(r)) || texts.Name(string(r)) {
			t.Fatalf("Name with the rune %d", r)
		}
	}
}

// P3.4

func TestWhatIsSortedIsSorted(t *testing.T) {
	for _, l := range someLists() {
		sorted := texts.Sort(l)
		if !texts.Sorted(sorted) {
			t.Fatalf("Sort(%q): %q, which is not Sorted", l, sorted)
		}
		if again := texts.Sort(sorted); !slices.Equal(again, sorted) {
			t.Fatalf("Sort(%q): %q, sorted again %q", l, sorted, again)
		}
		for _, s := range l {
			if at, there := texts.Find(sorted, s); !there || sorted[at] != s {
				t.Fatalf("Sort(%q): %q, without %q", l, sorted, s)
			}
		}
		for _, s := range sorted {
			if !slices.Contains(l, s) {
				t.Fatalf("Sort(%q): %q, with %q", l, sorted, s)
			}
		}
	}
}

func TestWhatIsSortedAlreadyStays(t *testing.T) {
	for _, l := range someLists() {
		if same := slices.Equal(texts.Sort(l), l); same != texts.Sorted(l) {
			t.Fatalf("Sort(%q): %q, but Sorted: %v", l, texts.Sort(l), texts.Sorted(l))
		}
	}
}

// R1

func TestEveryCallEndsAtGreatLists(t *testing.T) {
	const count = 100000
	for _, l := range [][]string{mixed(count, math.MaxUint32), slices.Repeat([]string{""}, count), slices.Repeat([]string{"b", "a"}, count/2)} {
		sorted := texts.Sort(l)
		if !texts.Sorted(sorted) || texts.Sorted(l) {
			t.Errorf("%d texts are sorted to %d", len(l), len(sorted))
		}
		if at, there := texts.Find(sorted, "\xff"); at != len(sorted) || there {
			t.Errorf("Find behind %d texts: %d %v", len(sorted), at, there)
		}
	}
}

// R4

// handed: lists as a caller may hand them in: unsorted, sorted, with the same text more than once.
func handed() [][]string {
	return [][]string{{}, {"a"}, {"b", "a"}, {"b", "a", "b"}, {"a", "b", "c"}, {"c", "c", "c", "c"}, {"", "z", "", "y", "\xff", "z"}, edges(), mixed(100, 30)}
}

// roomy: texts with spare room behind them, as whole (l and its room) and as l. The room's own texts are out of order, and ahead of l's.
func roomy(l []string, room int) (whole, part []string) {
	whole = slices.Clone(l)
	for i := range room {
		whole = append(whole, strings.Repeat("!", room-i))
	}
	whole = slices.Clip(whole)
	return whole, whole[:len(l)]
}

func TestWhatIsHandedInStaysAsItWas(t *testing.T) {
	for _, l := range handed() {
		for _, room := range []int{0, 1, 2, 7, 100} {
			whole, part := roomy(l, room)
			was := slices.Clone(whole)
			got := texts.Sort(part)
			if !slices.Equal(got, laid(l)) {
				t.Errorf("Sort(%q) with room for %d: %q", l, room, got)
			}
			texts.Sorted(part)
			texts.Find(part, "b")
			texts.Find(part, "\xff\xff\xff")
			if !slices.Equal(whole, was) {
				t.Errorf("%q with room for %d became %q", l, room, whole)
			}
		}
	}
}

func fill(l []string, with string) {
	for i := range l {
		l[i] = with
	}
}

func TestAnAnswerIsNewMemory(t *testing.T) {
	for _, l := range handed() {
		for _, room := range []int{0, 1, 7} {
			whole, part := roomy(l, room)
			was := slices.Clone(whole)
			one, other := texts.Sort(part), texts.Sort(part)
			fill(one[:cap(one)], "one")
			if !slices.Equal(whole, was) {
				t.Errorf("Sort(%q) with room for %d shares memory with what was handed in", l, room)
			}
			if !slices.Equal(other, laid(l)) {
				t.Errorf("two answers of Sort(%q) share memory", l)
			}
			otherWhole := slices.Clone(other[:cap(other)])
			fill(whole, "in")
			if !slices.Equal(other[:cap(other)], otherWhole) {
				t.Errorf("Sort(%q) with room for %d keeps what was handed in", l, room)
			}
		}
	}
}

// TestAnAnswerOfNothingIsNewMemory: no texts, but room for some.
func TestAnAnswerOfNothingIsNewMemory(t *testing.T) {
	whole := []string{"x", "w"}
	got := texts.Sort(whole[:0])
	fill(got[:cap(got)], "one")
	if len(got) != 0 || !slices.Equal(whole, []string{"x", "w"}) {
		t.Errorf("Sort of nothing with room: %q, %q", got, whole)
	}
}

func TestEmptyAndNilMeanTheSame(t *testing.T) {
	for _, l := range [][]string{nil, {}, make([]string, 0, 5), edges()[:0]} {
		if got := texts.Sort(l); len(got) != 0 {
			t.Errorf("Sort of nothing: %q", got)
		}
		if !texts.Sorted(l) {
			t.Error("nothing is not Sorted")
		}
		for _, s := range []string{"", "a"} {
			if at, there := texts.Find(l, s); at != 0 || there {
				t.Errorf("Find of %q in nothing: %d %v", s, at, there)
			}
		}
	}
}

// R5

func TestACallHangsOnNothingThatWasBefore(t *testing.T) {
	for range 3 {
		for _, l := range handed() {
			if got := texts.Sort(l); !slices.Equal(got, laid(l)) {
				t.Errorf("Sort(%q): %q", l, got)
			}
			reversed := slices.Clone(l)
			slices.Reverse(reversed)
			if got := texts.Sort(reversed); !slices.Equal(got, laid(l)) {
				t.Errorf("Sort(%q): %q", reversed, got)
			}
			if texts.Sorted(l) != texts.Sorted(slices.Clone(l)) {
				t.Errorf("Sorted(%q) changes", l)
			}
		}
		if !texts.Name("a1_") || texts.Name("1a") {
			t.Error("Name changes")
		}
	}
}
