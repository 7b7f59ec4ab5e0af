package head_test

import (
	"bytes"
	"math"
	"testing"

	"moneyer/api"
	"moneyer/head"
	"moneyer/sha"
	"moneyer/target"
)

// steps are n bytes that go up from the first one, so that no piece of them is like its neighbour.
func steps(first byte, n int) []byte {
	b := make([]byte, n)
	for i := range b {
		b[i] = first + byte(i)
	}
	return b
}

func join(parts ...[]byte) []byte { return bytes.Join(parts, nil) }

// some is a head each of whose bytes is another one, and these.
var (
	some = api.Head{Prev: api.Hash(steps(1, 32)), Root: api.Hash(steps(33, 32)), Time: 0x44434241, Bits: 0x48474645, Nonce: 0x4c4b4a49}
	text = steps(1, 76)
)

func heads() []api.Head {
	most := api.Hash(bytes.Repeat([]byte{255}, 32))
	return []api.Head{
		{}, some, head.Begin(), {Prev: most, Root: most, Time: math.MaxUint32, Bits: math.MaxUint32, Nonce: math.MaxUint32},
		{Time: 1}, {Bits: 1}, {Nonce: 1}, {Time: 1 << 31}, {Bits: 1 << 31}, {Nonce: 1 << 31}, {Prev: api.Hash{31: 1}}, {Root: api.Hash{1}},
	}
}

// get and read call the program and hold an error's other results to be zero.
func get(t *testing.T, b []byte, at int) (api.Head, int, api.Errno) {
	t.Helper()
	h, next, e := head.Get(b, at)
	if e != api.OK && (h != api.Head{} || next != 0) {
		t.Errorf("Get(%x, %d) = %v, %d, %d", b, at, h, next, e)
	}
	return h, next, e
}

func read(t *testing.T, b []byte) (api.Head, api.Errno) {
	t.Helper()
	h, e := head.Read(b)
	if e != api.OK && h != (api.Head{}) {
		t.Errorf("Read(%x) = %v, %d", b, h, e)
	}
	return h, e
}

func mine(t *testing.T, h api.Head, tries uint32) (api.Head, api.Errno) {
	t.Helper()
	m, e := head.Mine(h, tries)
	if e != api.OK && m != (api.Head{}) {
		t.Errorf("Mine(%v, %d) = %v, %d", h, tries, m, e)
	}
	return m, e
}

// The chapter's examples.
func TestExamples(t *testing.T) {
	if b := head.Put(api.Head{}); len(b) != 76 {
		t.Errorf("Put(zero): %d bytes", len(b))
	}
	if _, e := read(t, make([]byte, 75)); e != api.ErrShort {
		t.Errorf("Read(75 bytes): %d", e)
	}
	if _, e := read(t, make([]byte, 77)); e != api.ErrForm {
		t.Errorf("Read(77 bytes): %d", e)
	}
	if _, e := mine(t, api.Head{}, 5); e != api.ErrForm {
		t.Errorf("Mine(zero, 5): %d", e)
	}
	if h := head.Begin(); h.Bits != 0x207fffff {
		t.Errorf("Begin: %x", h.Bits)
	}
}

// P8.1

func TestPut(t *testing.T) {
	if b := head.Put(some); !bytes.Equal(b, text) {
		t.Errorf("Put = %x", b)
	}
	if h, e := read(t, text); h != some || e != api.OK {
		t.Errorf("Read = %v, %d", h, e)
	}
	if head.Begin() != (api.Head{Bits: api.Limit}) {
		t.Errorf("Begin = %v", head.Begin())
	}
	for _, h := range heads() {
		if id := head.Id(h); id != sha.Twice(head.Put(h)) {
			t.Errorf("Id(%v) = %x", h, id)
		}
	}
}

func TestGet(t *testing.T) {
	for _, h := range heads() {
		b := head.Put(h)
		for _, ahead := range []int{0, 1, 80} {
			for _, behind := range [][]byte{nil, {0}, steps(200, 80)} {
				if got, next, e := get(t, join(steps(99, ahead), b, behind), ahead); got != h || next != ahead+76 || e != api.OK {
					t.Errorf("Get = %v, %d, %d, not %v", got, next, e, h)
				}
			}
		}
		// P8.3
		if got, e := read(t, b); got != h || e != api.OK {
			t.Errorf("Read = %v, %d, not %v", got, e, h)
		}
		for _, behind := range [][]byte{{0}, {255}, b} {
			if _, e := read(t, join(b, behind)); e != api.ErrForm {
				t.Errorf("Read with %d more: %d", len(behind), e)
			}
		}
	}
	for n := range 76 {
		_, _, e1 := get(t, text[:n:n], 0)
		_, _, e2 := get(t, text, n+1)
		_, e3 := read(t, text[:n])
		if e1 != api.ErrShort || e2 != api.ErrShort || e3 != api.ErrShort {
			t.Errorf("%d bytes: %d, %d, %d", n, e1, e2, e3)
		}
	}
	for _, b := range [][]byte{nil, {}, {1}, text, join(text, text)} {
		for _, at := range []int{-1, -76, math.MinInt, len(b) + 1, math.MaxInt} {
			if _, _, e := get(t, b, at); e != api.ErrArg {
				t.Errorf("Get at %d of %d bytes: %d", at, len(b), e)
			}
		}
		if _, _, e := get(t, b, len(b)); e != api.ErrShort {
			t.Errorf("Get at the end of %d bytes: %d", len(b), e)
		}
	}
}

// P8.2

func TestWorks(t *testing.T) {
	yes, no := 0, 0
	for i := range 400 {
		for _, bits := range []uint32{api.Limit, 0x2000ffff, 0x1f7fffff} {
			h := api.Head{Bits: bits, Time: uint32(i)}
			works := head.Works(h)
			if works != target.Meets(head.Id(h), bits) {
				t.Errorf("Works(%v) = %t", h, works)
			}
			if works {
				yes++
			} else {
				no++
			}
		}
		// Bits that may not be: nothing works.
		for _, bits := range []uint32{0, 0x00ffffff, 0x20800000, 0x21010000, 0xff7fffff, 0x03000001} {
			if head.Works(api.Head{Bits: bits, Nonce: uint32(i)}) {
				t.Errorf("a head of the bits %x works", bits)
			}
		}
	}
	if yes < 100 || no < 100 {
		t.Errorf("%d work, %d do not", yes, no)
	}
}

// first says which of so many heads works first, and how many ahead of it do not.
func first(h api.Head, tries uint32) (api.Head, uint32, bool) {
	for i := uint32(0); i < tries; i++ {
		m := h
		m.Nonce += i
		if target.Meets(head.Id(m), m.Bits) {
			return m, i, true
		}
	}
	return api.Head{}, 0, false
}

func TestMine(t *testing.T) {
	late := 0
	for i := range 60 {
		for _, bits := range []uint32{api.Limit, 0x2007ffff, 0x2000ffff} {
			for _, nonce := range []uint32{0, 7, math.MaxUint32 - 2, math.MaxUint32} {
				h := api.Head{Bits: bits, Time: uint32(i), Prev: some.Prev, Root: some.Root, Nonce: nonce}
				want, behind, _ := first(h, 10000)
				if m, e := mine(t, h, behind+1); m != want || e != api.OK || !head.Works(m) {
					t.Errorf("Mine(%v, %d) = %v, %d", h, behind+1, m, e)
				}
				if m, e := mine(t, h, math.MaxUint32); m != want || e != api.OK {
					t.Errorf("Mine(%v) = %v, %d", h, m, e)
				}
				if _, e := mine(t, h, behind); e != api.ErrNone {
					t.Errorf("Mine(%v, %d): %d", h, behind, e)
				}
				if _, e := mine(t, h, 0); e != api.ErrNone {
					t.Errorf("Mine(%v, 0): %d", h, e)
				}
				// Behind the greatest nonce stands 0.
				if nonce > 7 && want.Nonce < nonce {
					late++
				}
			}
		}
	}
	if late < 10 {
		t.Errorf("just %d nonces are behind the greatest", late)
	}
	for _, bits := range []uint32{0, 0x00ffffff, 0x20800000, 0x21010000, 0xff7fffff, 0x03000001} {
		for _, tries := range []uint32{0, 1, math.MaxUint32} {
			if _, e := mine(t, api.Head{Bits: bits}, tries); e != api.ErrForm {
				t.Errorf("Mine of the bits %x, %d: %d", bits, tries, e)
			}
		}
	}
	// Bits that may be, but that no hash meets in a few tries.
	if _, e := mine(t, api.Head{Bits: 0x01010000}, 50); e != api.ErrNone {
		t.Errorf("Mine of the least target: %d", e)
	}
}

// The rules that hold everywhere: what is handed in stays as it is, what is answered is new memory.
func TestMemory(t *testing.T) {
	room := join(steps(9, 5), text, steps(100, 90))
	was := bytes.Clone(room)
	head.Get(room[5:81], 0)
	head.Read(room[5:81])
	a, b := head.Put(some), head.Put(some)
	for i := range a[:cap(a)] {
		a[:cap(a)][i] ^= 255
	}
	if !bytes.Equal(room, was) || !bytes.Equal(b, text) {
		t.Error("memory is shared")
	}
}
