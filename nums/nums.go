// Package nums is layer 1: numbers as bytes, as short as can be. See doc/01-nums.md.
package nums

import "cartouche/api"

const (
	more      = 1 << 7 // the highest bit of a byte: another one follows
	lastPlace = 9      // the tenth byte: nine of seven bits leave one bit of 64
	fourBytes = 4
)

// Put: a number, as short as can be, seven bits a byte; Get: back; how many bytes it took. (P1.1)
func Put(b []byte, n uint64) []byte {
	return putBytes(b, bytesOf(n)...)
}

// Get: likewise.
func Get(b []byte) (n uint64, took int, e api.Errno) {
reading:
	for i, c := range b {
		n |= uint64(c&^more) << (7 * i)
		switch {
		case i == lastPlace && c > 1, i > 0 && c == 0:
			return 0, 0, api.ErrForm
		case c < more:
			took = i + 1
			break reading
		}
	}
	if took == 0 {
		return 0, 0, api.ErrShort
	}
	return n, took, api.OK
}

// PutFour: a number in four bytes, the lowest first; GetFour: back. (P1.2)
func PutFour(b []byte, n uint32) []byte {
	return putBytes(b, byte(n), byte(n>>8), byte(n>>16), byte(n>>24))
}

// GetFour: likewise.
func GetFour(b []byte) (uint32, api.Errno) {
	if len(b) < fourBytes {
		return 0, api.ErrShort
	}
	return uint32(b[0]) | uint32(b[1])<<8 | uint32(b[2])<<16 | uint32(b[3])<<24, api.OK
}

// PutText: how many bytes, and these; GetText: back; how many bytes it took. (P1.3)
func PutText(b []byte, s string) []byte {
	return putBytes(b, append(bytesOf(uint64(len(s))), s...)...)
}

// GetText: likewise.
func GetText(b []byte) (s string, took int, e api.Errno) {
	n, took, e := Get(b)
	if e != api.OK {
		return "", 0, e
	}
	// Held against what is left as uint64: as an int the number could be negative.
	if uint64(len(b)-took) < n {
		return "", 0, api.ErrShort
	}
	end := took + int(n)
	return string(b[took:end]), end, api.OK
}

func bytesOf(n uint64) []byte {
	var l []byte
	for n >= more {
		l = append(l, byte(n)|more)
		n >>= 7
	}
	return append(l, byte(n))
}

// putBytes makes a new list: an append to b would write into b's spare room, which is the caller's.
func putBytes(b []byte, behind ...byte) []byte {
	all := make([]byte, 0, len(b)+len(behind))
	all = append(all, b...)
	return append(all, behind...)
}
