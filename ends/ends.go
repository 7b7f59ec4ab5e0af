// Package ends is layer 1: numbers and rows as bytes, the lowest byte first.
package ends

import (
	"moneyer/api"
)

// The first bytes of counts that go on behind them; a first byte below is the number itself.
const (
	mark2 = 253 + iota
	mark4
	mark8
)

// Put answers the bytes of n as a number of the size.
func Put(n uint64, size int) ([]byte, api.Errno) {
	if !isSize(size) || n>>(8*size) != 0 {
		return nil, api.ErrArg
	}
	return lowFirst(nil, n, size), api.OK
}

// Get answers the number of the size that stands in b at the place.
func Get(b []byte, at, size int) (uint64, api.Errno) {
	if !isSize(size) {
		return 0, api.ErrArg
	}
	p, e := piece(b, at, size)
	if e != api.OK {
		return 0, e
	}
	n := uint64(0)
	for i, x := range p {
		n |= uint64(x) << (8 * i)
	}
	return n, api.OK
}

// Part answers a copy of the n bytes that stand in b at the place.
func Part(b []byte, at, n int) ([]byte, api.Errno) {
	p, e := piece(b, at, n)
	if e != api.OK {
		return nil, e
	}
	part := make([]byte, n)
	copy(part, p)
	return part, api.OK
}

// Count answers n as a count, in the fewest bytes.
func Count(n uint64) []byte {
	switch size := sizeBehind(n); size {
	case 2:
		return lowFirst([]byte{mark2}, n, size)
	case 4:
		return lowFirst([]byte{mark4}, n, size)
	case 8:
		return lowFirst([]byte{mark8}, n, size)
	}
	return []byte{byte(n)}
}

// GetCount answers the count that stands in b at the place, and the place behind it.
func GetCount(b []byte, at int) (n uint64, next int, e api.Errno) {
	first, e := Get(b, at, 1)
	if e != api.OK {
		return 0, 0, e
	}
	if first < mark2 {
		return first, at + 1, api.OK
	}
	size := 2 << (first - mark2)
	n, e = Get(b, at+1, size)
	if e != api.OK {
		return 0, 0, e
	}
	if sizeBehind(n) != size {
		return 0, 0, api.ErrForm
	}
	return n, at + 1 + size, api.OK
}

// Row answers the length of b as a count, and its bytes.
func Row(b []byte) []byte {
	return append(Count(uint64(len(b))), b...)
}

// GetRow answers a copy of the row that stands in b at the place, if it is no longer than most, and the place behind it.
func GetRow(b []byte, at, most int) (row []byte, next int, e api.Errno) {
	n, start, e := GetCount(b, at)
	if e != api.OK {
		return nil, 0, e
	}
	// Held against most before it becomes an int: not every count is one.
	if most < 0 || n > uint64(most) {
		return nil, 0, api.ErrLimit
	}
	row, e = Part(b, start, int(n))
	if e != api.OK {
		return nil, 0, e
	}
	return row, start + len(row), api.OK
}

func isSize(size int) bool {
	return size == 1 || size == 2 || size == 4 || size == 8
}

// sizeBehind tells how many bytes stand behind the first one of a count: none, if that is the number itself.
func sizeBehind(n uint64) int {
	switch {
	case n < mark2:
		return 0
	case n < 1<<16:
		return 2
	case n < 1<<32:
		return 4
	}
	return 8
}

func lowFirst(b []byte, n uint64, size int) []byte {
	for i := range size {
		b = append(b, byte(n>>(8*i)))
	}
	return b
}

// piece cuts the n bytes at the place out of b, with no room behind them; it shares them with b.
func piece(b []byte, at, n int) ([]byte, api.Errno) {
	if at < 0 || at > len(b) || n < 0 {
		return nil, api.ErrArg
	}
	// Not at+n > len(b): the sum may leave what an int holds.
	if n > len(b)-at {
		return nil, api.ErrShort
	}
	return b[at : at+n : at+n], api.OK
}
