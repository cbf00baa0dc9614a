package nums_test

import (
	"bytes"
	"math"
	"slices"
	"strings"
	"testing"

	"cartouche/api"
	"cartouche/nums"
)

// edges: numbers at which the count of bytes, or the highest bit, changes.
func edges() []uint64 {
	l := []uint64{0, 1, 2, 300, math.MaxUint64 - 1, math.MaxUint64}
	for i := range 64 {
		p := uint64(1) << i
		l = append(l, p-1, p, p+1)
	}
	slices.Sort(l)
	return slices.Compact(l)
}

// ofSevenBits: a number's bytes worked out another way than the program does, by arithmetic on the whole number.
func ofSevenBits(n uint64) []byte {
	var l []byte
	for {
		low := byte(n % 128)
		n /= 128
		if n == 0 {
			return append(l, low)
		}
		l = append(l, low+128)
	}
}

func nines(last ...byte) []byte {
	return append(bytes.Repeat([]byte{255}, 9), last...)
}

func join(parts ...[]byte) []byte { return slices.Concat(parts...) }

// P1.1

func TestPutSpellsNumbers(t *testing.T) {
	for _, c := range []struct {
		b    []byte
		n    uint64
		want []byte
	}{
		{[]byte{9}, 300, []byte{9, 172, 2}},
		{nil, 0, []byte{0}},
		{[]byte{}, 0, []byte{0}},
		{nil, 1, []byte{1}},
		{nil, 127, []byte{127}},
		{nil, 128, []byte{128, 1}},
		{nil, 255, []byte{255, 1}},
		{nil, 16383, []byte{255, 127}},
		{nil, 16384, []byte{128, 128, 1}},
		{[]byte{0, 255, 128}, 5, []byte{0, 255, 128, 5}},
		{nil, 1<<63 - 1, []byte{255, 255, 255, 255, 255, 255, 255, 255, 127}},
		{nil, 1 << 63, []byte{128, 128, 128, 128, 128, 128, 128, 128, 128, 1}},
		{nil, math.MaxUint64, nines(1)},
	} {
		if got := nums.Put(c.b, c.n); !bytes.Equal(got, c.want) {
			t.Errorf("Put(%v, %d): %v, want %v", c.b, c.n, got, c.want)
		}
	}
	if got := len(nums.Put(nil, math.MaxUint64)); got != 10 {
		t.Errorf("2^64 - 1 has %d bytes, want 10", got)
	}
}

func TestPutAtEveryEdge(t *testing.T) {
	for _, n := range edges() {
		want := join([]byte{7, 200}, ofSevenBits(n))
		if got := nums.Put([]byte{7, 200}, n); !bytes.Equal(got, want) {
			t.Errorf("Put(%d): %v, want %v", n, got, want)
		}
	}
}

func TestGetReadsNumbers(t *testing.T) {
	for _, c := range []struct {
		b    []byte
		n    uint64
		took int
	}{
		{[]byte{172, 2, 7}, 300, 2},
		{[]byte{172, 2}, 300, 2},
		{[]byte{0}, 0, 1},
		{[]byte{0, 0}, 0, 1},
		{[]byte{0, 128}, 0, 1},
		{[]byte{127, 255}, 127, 1},
		{[]byte{128, 1}, 128, 2},
		{[]byte{128, 1, 0}, 128, 2},
		{[]byte{128, 128, 1}, 16384, 3},
		{nines(1), math.MaxUint64, 10},
		{nines(1, 1), math.MaxUint64, 10},
		{nines(1, 0), math.MaxUint64, 10},
		{append(bytes.Repeat([]byte{128}, 9), 1), 1 << 63, 10},
		{append(bytes.Repeat([]byte{128}, 8), 1), 1 << 56, 9},
		{append(bytes.Repeat([]byte{255}, 8), 127), 1<<63 - 1, 9},
	} {
		if n, took, e := nums.Get(c.b); n != c.n || took != c.took || e != api.OK {
			t.Errorf("Get(%v): %d %d %v, want %d %d", c.b, n, took, e, c.n, c.took)
		}
	}
}

func TestGetRefuses(t *testing.T) {
	for _, c := range []struct {
		b []byte
		e api.Errno
	}{
		{nil, api.ErrShort},
		{[]byte{}, api.ErrShort},
		{[]byte{128}, api.ErrShort},
		{[]byte{255, 255, 128}, api.ErrShort},
		{nines(), api.ErrShort},
		{bytes.Repeat([]byte{128}, 9), api.ErrShort},
		{[]byte{128, 0}, api.ErrForm},
		{[]byte{128, 0, 1}, api.ErrForm},
		{[]byte{255, 0}, api.ErrForm},
		{[]byte{128, 128, 0}, api.ErrForm},
		{[]byte{255, 129, 0}, api.ErrForm},
		{nines(0), api.ErrForm},
		{nines(2), api.ErrForm},
		{nines(3), api.ErrForm},
		{nines(127), api.ErrForm},
		{nines(128), api.ErrForm},
		{nines(129), api.ErrForm},
		{nines(128, 1), api.ErrForm},
		{nines(129, 0), api.ErrForm},
		{nines(255), api.ErrForm},
		{bytes.Repeat([]byte{128}, 10), api.ErrForm},
		{bytes.Repeat([]byte{128}, 300), api.ErrForm},
		{append(bytes.Repeat([]byte{128}, 9), 0), api.ErrForm},
	} {
		if n, took, e := nums.Get(c.b); n != 0 || took != 0 || e != c.e {
			t.Errorf("Get(%v): %d %d %v, want 0 0 %v", c.b, n, took, e, c.e)
		}
	}
}

func TestGetOfATenthByte(t *testing.T) {
	for c := range 256 {
		_, took, e := nums.Get(nines(byte(c)))
		if ok := e == api.OK && took == 10; ok != (c == 1) || !ok && e != api.ErrForm {
			t.Errorf("a tenth byte %d: took %d, %v", c, took, e)
		}
	}
}

// P1.2

func TestFourBytes(t *testing.T) {
	for _, c := range []struct {
		b    []byte
		n    uint32
		want []byte
	}{
		{nil, 258, []byte{2, 1, 0, 0}},
		{nil, 0, []byte{0, 0, 0, 0}},
		{[]byte{1}, 0x01020304, []byte{1, 4, 3, 2, 1}},
		{[]byte{}, 0xfedcba98, []byte{0x98, 0xba, 0xdc, 0xfe}},
		{[]byte{255}, math.MaxUint32, []byte{255, 255, 255, 255, 255}},
		{nil, 1 << 31, []byte{0, 0, 0, 128}},
	} {
		if got := nums.PutFour(c.b, c.n); !bytes.Equal(got, c.want) {
			t.Errorf("PutFour(%v, %d): %v, want %v", c.b, c.n, got, c.want)
		}
		behind := join(c.want[len(c.b):], []byte{5, 6})
		for end := 4; end <= 6; end++ {
			if n, e := nums.GetFour(behind[:end]); n != c.n || e != api.OK {
				t.Errorf("GetFour(%v): %d %v, want %d", behind[:end], n, e, c.n)
			}
		}
	}
}

func TestFourBytesPlaceByPlace(t *testing.T) {
	for i := range 32 {
		n := uint32(1) << i
		want := make([]byte, 4)
		want[i/8] = 1 << (i % 8)
		if got := nums.PutFour(nil, n); !bytes.Equal(got, want) {
			t.Errorf("PutFour(2^%d): %v", i, got)
		}
		if got, e := nums.GetFour(want); got != n || e != api.OK {
			t.Errorf("GetFour(%v): %d %v", want, got, e)
		}
	}
}

func TestFourBytesThatEndTooEarly(t *testing.T) {
	for end := range 4 {
		if n, e := nums.GetFour([]byte{2, 1, 3, 4}[:end:end]); n != 0 || e != api.ErrShort {
			t.Errorf("GetFour of %d bytes: %d %v, want 0 ErrShort", end, n, e)
		}
	}
	if n, e := nums.GetFour(nil); n != 0 || e != api.ErrShort {
		t.Errorf("GetFour(nil): %d %v", n, e)
	}
}

// P1.3

func TestPutTextSpellsTexts(t *testing.T) {
	long := strings.Repeat("x", 300)
	for _, c := range []struct {
		b    []byte
		s    string
		want string
	}{
		{nil, "ab", "\x02ab"},
		{nil, "", "\x00"},
		{[]byte{7}, "", "\x07\x00"},
		{[]byte{7}, "abc", "\x07\x03abc"},
		{[]byte{}, "\x00\xff\x80", "\x03\x00\xff\x80"},
		{nil, "\u00e9", "\x02\xc3\xa9"},
		{[]byte{1, 2}, long[:127], "\x01\x02\x7f" + long[:127]},
		{nil, long[:128], "\x80\x01" + long[:128]},
		{nil, long, "\xac\x02" + long},
	} {
		if got := nums.PutText(c.b, c.s); string(got) != c.want {
			t.Errorf("PutText(%v, %q): %q, want %q", c.b, c.s, got, c.want)
		}
	}
}

func TestGetTextReadsTexts(t *testing.T) {
	long := strings.Repeat("y", 20000)
	for _, c := range []struct {
		b, s string
		took int
	}{
		{"\x02abc", "ab", 3},
		{"\x02ab", "ab", 3},
		{"\x03abcd", "abc", 4},
		{"\x00", "", 1},
		{"\x00\x00", "", 1},
		{"\x03\x00\xff\x80\x80", "\x00\xff\x80", 4},
		{"\x7f" + long, long[:127], 128},
		{"\x80\x01" + long, long[:128], 130},
		{"\x80\x80\x01" + long, long[:16384], 16387},
	} {
		if s, took, e := nums.GetText([]byte(c.b)); s != c.s || took != c.took || e != api.OK {
			t.Errorf("GetText(%.20q): %.20q %d %v, want %.20q %d", c.b, s, took, e, c.s, c.took)
		}
	}
}

func TestGetTextRefuses(t *testing.T) {
	for _, c := range []struct {
		b string
		e api.Errno
	}{
		{"", api.ErrShort},
		{"\x80", api.ErrShort},
		{"\x01", api.ErrShort},
		{"\x02a", api.ErrShort},
		{"\x03ab", api.ErrShort},
		{"\x80\x01" + strings.Repeat("z", 127), api.ErrShort},
		{"\x80\x00", api.ErrForm},
		{"\x81\x00a", api.ErrForm},
		{"\xff\xff\xff\xff\xff\xff\xff\xff\xff\x02", api.ErrForm},
		{"\xff\xff\xff\xff\xff\xff\xff\xff\xff\x01", api.ErrShort},
		{"\xff\xff\xff\xff\xff\xff\xff\xff\xff\x01abc", api.ErrShort},
		{"\x80\x80\x80\x80\x80\x80\x80\x80\x80\x01abc", api.ErrShort},
		{"\xff\xff\xff\xff\xff\xff\xff\xff\x7fabc", api.ErrShort},
		{"\x80\x80\x80\x80\x10abc", api.ErrShort},
		{"\x81\x80\x80\x80\x10abc", api.ErrShort},
	} {
		if s, took, e := nums.GetText([]byte(c.b)); s != "" || took != 0 || e != c.e {
			t.Errorf("GetText(%q): %q %d %v, want %v", c.b, s, took, e, c.e)
		}
	}
}

// P1.4

func TestWhatIsPutIsGotWhateverStandsBehind(t *testing.T) {
	behinds := [][]byte{nil, {0}, {1}, {127}, {128}, {255, 255}, {128, 0}, nines(2)}
	for _, n := range edges() {
		b := nums.Put(nil, n)
		for _, behind := range behinds {
			if got, took, e := nums.Get(join(b, behind)); got != n || took != len(b) || e != api.OK {
				t.Errorf("Get of %d with %v behind it: %d %d %v", n, behind, got, took, e)
			}
		}
	}
	for _, n := range edges() {
		b := nums.PutFour(nil, uint32(n))
		for _, behind := range behinds {
			if got, e := nums.GetFour(join(b, behind)); got != uint32(n) || e != api.OK {
				t.Errorf("GetFour of %d with %v behind it: %d %v", n, behind, got, e)
			}
		}
	}
	for _, size := range []int{0, 1, 2, 126, 127, 128, 129, 16383, 16384, 16385} {
		s := strings.Repeat("\x80", size)
		b := nums.PutText(nil, s)
		for _, behind := range behinds {
			if got, took, e := nums.GetText(join(b, behind)); got != s || took != len(b) || e != api.OK {
				t.Errorf("GetText of %d bytes with %v behind them: %d bytes, %d %v", size, behind, len(got), took, e)
			}
		}
	}
}

// lists: all lists of up to most bytes of these.
func lists(most int, of ...byte) [][]byte {
	all := [][]byte{nil}
	for from := 0; most > 0; most-- {
		end := len(all)
		for _, l := range all[from:end] {
			for _, c := range of {
				all = append(all, join(l, []byte{c}))
			}
		}
		from = end
	}
	return all
}

func allBytes() []byte {
	l := make([]byte, 256)
	for i := range l {
		l[i] = byte(i)
	}
	return l
}

func TestWhatIsGotBeginsWithItsOwnBytes(t *testing.T) {
	all := lists(2, allBytes()...)
	all = append(all, lists(5, 0, 1, 2, 127, 128, 255)...)
	for _, l := range lists(4, 0, 1, 2, 128, 255) {
		all = append(all, join(bytes.Repeat([]byte{129}, 7), l))
	}
	for _, b := range all {
		if n, took, e := nums.Get(b); e == api.OK {
			if took < 1 || took > len(b) || !bytes.Equal(nums.Put(nil, n), b[:took]) {
				t.Fatalf("Get(%v): %d %d, whose own bytes are %v", b, n, took, nums.Put(nil, n))
			}
		} else if n != 0 || took != 0 || e != api.ErrForm && e != api.ErrShort {
			t.Fatalf("Get(%v): %d %d %v", b, n, took, e)
		}
		if s, took, e := nums.GetText(b); e == api.OK {
			if took < 1 || took > len(b) || !bytes.Equal(nums.PutText(nil, s), b[:took]) {
				t.Fatalf("GetText(%v): %q %d, whose own bytes are %v", b, s, took, nums.PutText(nil, s))
			}
		} else if s != "" || took != 0 || e != api.ErrForm && e != api.ErrShort {
			t.Fatalf("GetText(%v): %q %d %v", b, s, took, e)
		}
		if n, e := nums.GetFour(b); e == api.OK && !bytes.Equal(nums.PutFour(nil, n), b[:4]) {
			t.Fatalf("GetFour(%v): %d", b, n)
		}
	}
}

func TestAGreaterNumberHasNoFewerBytes(t *testing.T) {
	least, before := uint64(0), 1
	for _, n := range edges() {
		size := len(nums.Put(nil, n))
		if size < before {
			t.Errorf("%d has %d bytes, but %d has %d", n, size, least, before)
		}
		least, before = n, size
	}
	for places := 1; places <= 9; places++ {
		last := uint64(1)<<(7*places) - 1
		if size := len(nums.Put(nil, last)); size != places {
			t.Errorf("%d has %d bytes, want %d", last, size, places)
		}
		if size := len(nums.Put(nil, last+1)); size != places+1 {
			t.Errorf("%d has %d bytes, want %d", last+1, size, places+1)
		}
	}
}

// R4

// puts: each call that answers bytes, of a little and of much.
func puts() map[string]func(b []byte) []byte {
	long := strings.Repeat("t", 500)
	return map[string]func(b []byte) []byte{
		"Put of 0":           func(b []byte) []byte { return nums.Put(b, 0) },
		"Put of 300":         func(b []byte) []byte { return nums.Put(b, 300) },
		"Put of 2^64 - 1":    func(b []byte) []byte { return nums.Put(b, math.MaxUint64) },
		"PutFour of 258":     func(b []byte) []byte { return nums.PutFour(b, 258) },
		"PutText of nothing": func(b []byte) []byte { return nums.PutText(b, "") },
		"PutText of ab":      func(b []byte) []byte { return nums.PutText(b, "ab") },
		"PutText of 500":     func(b []byte) []byte { return nums.PutText(b, long) },
	}
}

// roomy: bytes with spare room behind them, as whole (b and its room) and as b.
func roomy(size, room int) (whole, b []byte) {
	whole = make([]byte, size+room)
	for i := range whole {
		whole[i] = byte(100 + i%50)
	}
	return whole, whole[:size]
}

func fill(b []byte, with byte) {
	for i := range b {
		b[i] = with
	}
}

func TestWhatIsHandedInStaysAsItWas(t *testing.T) {
	for name, put := range puts() {
		for _, size := range []int{0, 1, 3, 40} {
			for _, room := range []int{0, 1, 4, 5, 16, 600} {
				whole, b := roomy(size, room)
				was := bytes.Clone(whole)
				put(b)
				if !bytes.Equal(whole, was) {
					t.Errorf("%s: %d bytes with room for %d were changed: %v", name, size, room, whole)
				}
			}
		}
	}
	for _, l := range [][]byte{{172, 2, 7, 1, 9}, {2, 97, 98, 99, 1}, {128, 0, 1, 1, 1}, {128, 128, 128, 1, 2}} {
		for end := range len(l) + 1 {
			b := bytes.Clone(l)
			nums.Get(b[:end])
			nums.GetFour(b[:end])
			nums.GetText(b[:end])
			if !bytes.Equal(b, l) {
				t.Errorf("reading changed %v to %v", l, b)
			}
		}
	}
}

func TestAnAnswerIsNewMemory(t *testing.T) {
	for name, put := range puts() {
		for _, size := range []int{0, 1, 3, 40} {
			for _, room := range []int{0, 1, 4, 16, 600} {
				whole, b := roomy(size, room)
				was := bytes.Clone(whole)
				one, two := put(b), put(b)
				want := bytes.Clone(one)
				fill(two[:cap(two)], 1)
				if !bytes.Equal(one, want) || !bytes.Equal(whole, was) {
					t.Errorf("%s: of %d bytes with room for %d the second answer shares memory", name, size, room)
				}
				three := put(b)
				fill(one[:cap(one)], 2)
				if !bytes.Equal(three, want) || !bytes.Equal(whole, was) {
					t.Errorf("%s: of %d bytes with room for %d the first answer shares memory", name, size, room)
				}
				fill(whole, 3)
				if !bytes.Equal(three, want) {
					t.Errorf("%s: of %d bytes with room for %d the answer changed with what was handed in", name, size, room)
				}
			}
		}
	}
}

func TestAnAnswerSharesNoRoomWithOneMadeOfIt(t *testing.T) {
	for name, put := range puts() {
		one := put([]byte{9})
		two, three := put(one), put(one)
		wantOne, wantThree := bytes.Clone(one), bytes.Clone(three)
		fill(two[:cap(two)], 1)
		if !bytes.Equal(one, wantOne) || !bytes.Equal(three, wantThree) {
			t.Errorf("%s: an answer shares memory with one that was made of it", name)
		}
		fill(one[:cap(one)], 2)
		if !bytes.Equal(three, wantThree) {
			t.Errorf("%s: an answer shares memory with the one that it was made of", name)
		}
	}
}

func TestATextThatWasGotStays(t *testing.T) {
	b := []byte("\x03abcd")
	s, _, e := nums.GetText(b)
	fill(b, 'z')
	if s != "abc" || e != api.OK {
		t.Errorf("the text changed with its bytes: %q %v", s, e)
	}
}

func TestSpareRoomIsNotRead(t *testing.T) {
	b := []byte{130, 1, 97, 98, 99}
	if n, took, e := nums.Get(b[:1]); n != 0 || took != 0 || e != api.ErrShort {
		t.Errorf("Get read spare room: %d %d %v", n, took, e)
	}
	if n, e := nums.GetFour(b[:3]); n != 0 || e != api.ErrShort {
		t.Errorf("GetFour read spare room: %d %v", n, e)
	}
	if s, took, e := nums.GetText([]byte("\x03abcd")[:3]); s != "" || took != 0 || e != api.ErrShort {
		t.Errorf("GetText read spare room: %q %d %v", s, took, e)
	}
}

func TestEmptyAndNilAreTheSame(t *testing.T) {
	for name, put := range puts() {
		if a, b := put(nil), put([]byte{}); !bytes.Equal(a, b) {
			t.Errorf("%s: %v of nil, %v of empty", name, a, b)
		}
	}
	for _, none := range [][]byte{nil, {}} {
		if _, _, e := nums.Get(none); e != api.ErrShort {
			t.Errorf("Get of nothing: %v", e)
		}
		if _, e := nums.GetFour(none); e != api.ErrShort {
			t.Errorf("GetFour of nothing: %v", e)
		}
		if _, _, e := nums.GetText(none); e != api.ErrShort {
			t.Errorf("GetText of nothing: %v", e)
		}
	}
}

// R5

func TestAnswersHangOnArgumentsAlone(t *testing.T) {
	for name, put := range puts() {
		first := put([]byte{5})
		for _, other := range puts() {
			other([]byte{6, 7})
		}
		nums.Get([]byte{128, 0})
		if again := put([]byte{5}); !bytes.Equal(first, again) {
			t.Errorf("%s: %v, then %v", name, first, again)
		}
	}
}
