package sums_test

import (
	"bytes"
	"hash/crc32"
	"math"
	"math/bits"
	"slices"
	"testing"

	"cartouche/sums"
)

// divided: On as the document says it, a row of bits divided one by one; worked out another way than the program does.
func divided(sum uint32, b []byte) uint32 {
	var row []byte
	for _, c := range b {
		for i := range 8 {
			row = append(row, c>>i&1)
		}
	}
	row = append(row, make([]byte, 32)...)
	for i := range 32 {
		if sum>>i&1 == 0 {
			row[i] ^= 1
		}
	}
	const divisor = "100000100110000010001110110110111"
	for i := 0; i+32 < len(row); i++ {
		if row[i] == 1 {
			for j := range divisor {
				row[i+j] ^= divisor[j] - '0'
			}
		}
	}
	var answer uint32
	for i, bit := range row[len(row)-32:] {
		answer |= uint32(bit^1) << i
	}
	return answer
}

func join(parts ...[]byte) []byte { return slices.Concat(parts...) }

// mixed: bytes with no rule to be seen in them, the same ones each time.
func mixed(size int, seed uint32) []byte {
	b := make([]byte, size)
	for i := range b {
		seed = seed*1664525 + 1013904223
		b[i] = byte(seed >> 24)
	}
	return b
}

func four(n uint32) []byte {
	return []byte{byte(n), byte(n >> 8), byte(n >> 16), byte(n >> 24)}
}

// edgeSums: none, all, each single bit, each single nought, and some others.
func edgeSums() []uint32 {
	l := []uint32{0, math.MaxUint32, 7, 3421780262, 0xedb88320, 0x04c11db7, 0x12345678}
	for i := range 32 {
		l = append(l, 1<<i, ^uint32(1<<i))
	}
	slices.Sort(l)
	return slices.Compact(l)
}

// someBytes: lists of ordinary bytes and of edges.
func someBytes() [][]byte {
	l := [][]byte{
		nil, {}, {0}, {1}, {15}, {16}, {128}, {255}, {0, 0}, {1, 2}, {2, 1}, {255, 255, 255}, {255, 255, 255, 255},
		{0, 0, 0, 0}, {255, 255, 255, 255, 0}, []byte("a"), []byte("abc"), []byte("123456789"),
		[]byte("The quick brown fox jumps over the lazy dog"),
		make([]byte, 32), bytes.Repeat([]byte{255}, 32),
	}
	for size := range 20 {
		l = append(l, mixed(size, uint32(size)))
	}
	return append(l, mixed(300, 5))
}

// P2.1

func TestOfExamples(t *testing.T) {
	for _, c := range []struct {
		b    []byte
		want uint32
	}{
		{nil, 0},
		{[]byte{}, 0},
		{[]byte("123456789"), 3421780262},
		{[]byte{255, 255, 255, 255}, 4294967295},
		{[]byte{0}, 0xd202ef8d},
		{[]byte{0, 0, 0, 0}, 0x2144df1c},
		{[]byte("a"), 0xe8b7be43},
		{[]byte("abc"), 0x352441c2},
		{[]byte("The quick brown fox jumps over the lazy dog"), 0x414fa339},
		{make([]byte, 32), 0x190a55ad},
		{bytes.Repeat([]byte{255}, 32), 0xff6cab0b},
	} {
		if got := sums.Of(c.b); got != c.want {
			t.Errorf("Of(%v): %d, want %d", c.b, got, c.want)
		}
	}
}

func TestOfIsWhatIsLeftOfTheRow(t *testing.T) {
	for _, b := range someBytes() {
		if got, want := sums.Of(b), divided(0, b); got != want {
			t.Errorf("Of(%v): %d, want %d", b, got, want)
		}
	}
}

func TestOfEveryByte(t *testing.T) {
	for c := range 256 {
		for _, ahead := range [][]byte{nil, {0}, {255, 1}, []byte("1234")} {
			b := join(ahead, []byte{byte(c)})
			if got, want := sums.Of(b), divided(0, b); got != want {
				t.Errorf("Of(%v): %d, want %d", b, got, want)
			}
		}
	}
}

func TestOfMuch(t *testing.T) {
	for _, size := range []int{255, 256, 257, 4095, 4096, 65536, 1 << 20} {
		b := mixed(size, 77)
		if got, want := sums.Of(b), crc32.ChecksumIEEE(b); got != want {
			t.Errorf("Of of %d bytes: %d, want %d", size, got, want)
		}
	}
}

// P2.2

func TestOnExamples(t *testing.T) {
	if got, want := sums.On(0, []byte("a")), sums.Of([]byte("a")); got != want || got != 0xe8b7be43 {
		t.Errorf("On(0, a): %d, want %d", got, want)
	}
	if got := sums.On(7, nil); got != 7 {
		t.Errorf("On(7, none): %d, want 7", got)
	}
	if got, want := sums.On(0xe8b7be43, []byte("bc")), uint32(0x352441c2); got != want {
		t.Errorf("On(Of(a), bc): %d, want %d", got, want)
	}
	if got := sums.On(0, []byte("123456789")); got != 3421780262 {
		t.Errorf("On(0, 123456789): %d, want 3421780262", got)
	}
}

func TestOnTurnsWhereTheSumHasANought(t *testing.T) {
	for _, sum := range edgeSums() {
		for _, b := range someBytes() {
			if got, want := sums.On(sum, b), divided(sum, b); got != want {
				t.Errorf("On(%d, %v): %d, want %d", sum, b, got, want)
			}
		}
	}
}

func TestOnMuch(t *testing.T) {
	b := mixed(100003, 9)
	for _, sum := range []uint32{0, 1, 1 << 31, 0x12345678, math.MaxUint32} {
		if got, want := sums.On(sum, b), crc32.Update(sum, crc32.IEEETable, b); got != want {
			t.Errorf("On(%d) of %d bytes: %d, want %d", sum, len(b), got, want)
		}
	}
}

// P2.3

func TestOnOfNothingIsTheSum(t *testing.T) {
	for _, sum := range edgeSums() {
		for _, none := range [][]byte{nil, {}, []byte("abc")[:0]} {
			if got := sums.On(sum, none); got != sum {
				t.Errorf("On(%d, none): %d", sum, got)
			}
		}
	}
}

func TestBytesCutInTwo(t *testing.T) {
	for _, b := range someBytes() {
		want := sums.Of(b)
		for cut := range len(b) + 1 {
			if got := sums.On(sums.Of(b[:cut]), b[cut:]); got != want {
				t.Errorf("%v cut at %d: %d, want %d", b, cut, got, want)
			}
		}
	}
}

func TestBytesCutInManyBehindAnySum(t *testing.T) {
	for _, sum := range edgeSums() {
		b := mixed(30, sum)
		one, many := sum, sum
		for _, c := range b {
			one = sums.On(one, []byte{c})
		}
		for part := range slices.Chunk(b, 7) {
			many = sums.On(many, part)
		}
		if want := sums.On(sum, b); one != want || many != want {
			t.Errorf("behind %d: %d byte by byte, %d in sevens, %d at once", sum, one, many, want)
		}
	}
}

// rank: how many of these are no exclusive or of some of the others.
func rank(l []uint32) int {
	var heads [32]uint32
	count := 0
	for _, n := range l {
		for n != 0 {
			head := bits.Len32(n) - 1
			if heads[head] == 0 {
				heads[head] = n
				count++
				break
			}
			n ^= heads[head]
		}
	}
	return count
}

// single: what each single bit changes in what f tells.
func single(f func(n uint32) uint32) []uint32 {
	var l []uint32
	for i := range 32 {
		l = append(l, f(1<<i)^f(0))
	}
	return l
}

// evenly: each bit changes the same, whatever the others are; so that all unlike ones are told apart if the single changes are 32 by rank.
func evenly(f func(n uint32) uint32) bool {
	changes := single(f)
	for _, n := range edgeSums() {
		want := f(0)
		for i, change := range changes {
			if n>>i&1 == 1 {
				want ^= change
			}
		}
		if f(n) != want {
			return false
		}
	}
	return true
}

func TestUnlikeSumsStayUnlike(t *testing.T) {
	for _, b := range someBytes() {
		behind := func(sum uint32) uint32 { return sums.On(sum, b) }
		if !evenly(behind) || rank(single(behind)) != 32 {
			t.Errorf("behind some unlike sums %v makes the same one", b)
		}
		from := map[uint32]uint32{}
		for _, sum := range edgeSums() {
			got := behind(sum)
			if other, there := from[got]; there {
				t.Errorf("%v behind %d and behind %d: %d", b, sum, other, got)
			}
			from[got] = sum
		}
	}
}

// reaching: the four bytes that make target behind sum, by dividing backwards from it.
func reaching(sum, target uint32) []byte {
	n := ^target
	for range 32 {
		if n>>31 == 1 {
			n = (n^0xedb88320)<<1 | 1
		} else {
			n <<= 1
		}
	}
	return four(n ^ ^sum)
}

func TestEachSumIsHitByFourBytes(t *testing.T) {
	for _, ahead := range someBytes() {
		sum := sums.Of(ahead)
		for _, target := range edgeSums() {
			b := reaching(sum, target)
			if got := sums.Of(join(ahead, b)); got != target {
				t.Fatalf("%v behind %v: %d, want %d", b, ahead, got, target)
			}
		}
	}
	for _, sum := range edgeSums() {
		for _, target := range edgeSums() {
			if got := sums.On(sum, reaching(sum, target)); got != target {
				t.Fatalf("%v behind %d: %d, want %d", reaching(sum, target), sum, got, target)
			}
		}
	}
}

func TestEachSumIsHitByJustOneFour(t *testing.T) {
	for _, sum := range edgeSums() {
		of := func(n uint32) uint32 { return sums.On(sum, four(n)) }
		if !evenly(of) || rank(single(of)) != 32 {
			t.Errorf("behind %d some unlike lists of four bytes make the same sum", sum)
		}
	}
}

func TestNeighboursThatChangePlaces(t *testing.T) {
	for _, around := range []struct{ ahead, behind []byte }{
		{nil, nil}, {[]byte{0}, nil}, {nil, []byte{0, 0}}, {[]byte("abcde"), []byte("fg")}, {[]byte{255, 255, 255, 255}, []byte{0}},
	} {
		for x := range 256 {
			for y := range x {
				one := sums.Of(join(around.ahead, []byte{byte(x), byte(y)}, around.behind))
				two := sums.Of(join(around.ahead, []byte{byte(y), byte(x)}, around.behind))
				if one == two {
					t.Fatalf("%d %d and %d %d between %v and %v: %d", x, y, y, x, around.ahead, around.behind, one)
				}
			}
		}
	}
}

func TestNoughtsBehindFour255(t *testing.T) {
	head := []byte{255, 255, 255, 255}
	for _, size := range []int{0, 1, 2, 3, 4, 5, 8, 31, 32, 33, 1000, 1 << 16} {
		if got := sums.Of(join(head, make([]byte, size))); got != math.MaxUint32 {
			t.Errorf("Of of four 255 and %d noughts: %d, want 4294967295", size, got)
		}
		if got := sums.On(math.MaxUint32, make([]byte, size)); got != math.MaxUint32 {
			t.Errorf("On(4294967295) of %d noughts: %d, want 4294967295", size, got)
		}
	}
	if got := sums.Of(head[:3]); got == math.MaxUint32 {
		t.Errorf("Of of three 255: %d", got)
	}
	if sums.Of(head[:3]) == sums.Of(join(head[:3], []byte{0})) {
		t.Error("a nought behind three 255 changes nothing")
	}
}

// R4

func TestWhatIsHandedInStaysAsItWas(t *testing.T) {
	for _, size := range []int{0, 1, 3, 4, 9, 40} {
		for _, room := range []int{0, 1, 4, 32, 300} {
			whole := mixed(size+room, uint32(size))
			was := bytes.Clone(whole)
			for _, sum := range []uint32{0, 7, math.MaxUint32} {
				sums.Of(whole[:size])
				sums.On(sum, whole[:size])
				if !bytes.Equal(whole, was) {
					t.Fatalf("%d bytes with room for %d were changed", size, room)
				}
			}
		}
	}
}

func TestSpareRoomIsNotRead(t *testing.T) {
	for size := range 12 {
		whole := mixed(20, 3)
		of, on := sums.Of(whole[:size]), sums.On(7, whole[:size])
		exact := slices.Clip(bytes.Clone(whole[:size]))
		for i := range whole[size:] {
			whole[size+i] ^= 255
		}
		if got := sums.Of(whole[:size]); got != of || got != sums.Of(exact) {
			t.Errorf("Of of %d bytes hangs on their spare room", size)
		}
		if got := sums.On(7, whole[:size]); got != on || got != sums.On(7, exact) {
			t.Errorf("On of %d bytes hangs on their spare room", size)
		}
	}
}

func TestEmptyAndNilAreTheSame(t *testing.T) {
	if a, b := sums.Of(nil), sums.Of([]byte{}); a != 0 || b != 0 {
		t.Errorf("Of: %d of nil, %d of empty", a, b)
	}
	for _, sum := range edgeSums() {
		if a, b := sums.On(sum, nil), sums.On(sum, []byte{}); a != b {
			t.Errorf("On(%d): %d of nil, %d of empty", sum, a, b)
		}
	}
}

// R5

func TestAnswersHangOnArgumentsAlone(t *testing.T) {
	first, on := sums.Of([]byte("abc")), sums.On(7, []byte("abc"))
	for _, b := range someBytes() {
		sums.Of(b)
		sums.On(first, b)
		if of, again := sums.Of([]byte("abc")), sums.On(7, []byte("abc")); of != first || again != on {
			t.Fatalf("after %v: %d and %d, first %d and %d", b, of, again, first, on)
		}
	}
}

func TestCallsSideBySide(t *testing.T) {
	b := mixed(5000, 1)
	want := sums.On(7, b)
	got := make(chan uint32)
	for range 8 {
		go func() { got <- sums.On(7, b) }()
	}
	for range 8 {
		if one := <-got; one != want {
			t.Errorf("side by side: %d, alone %d", one, want)
		}
	}
}
