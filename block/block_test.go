package block_test

import (
	"bytes"
	"math"
	"slices"
	"testing"

	"moneyer/api"
	"moneyer/block"
	"moneyer/head"
	"moneyer/merkle"
	"moneyer/tx"
)

// steps are n bytes that go up from the first one, so that no piece of them is like its neighbour.
func steps(first byte, n int) []byte {
	b := make([]byte, n)
	for i := range b {
		b[i] = first + byte(i)
	}
	return b
}

func join(parts ...[]byte) []byte { return bytes.Join(parts, nil) }

var someHead = api.Head{Prev: api.Hash(steps(1, 32)), Root: api.Hash(steps(33, 32)), Time: 0x44434241, Bits: 0x48474645, Nonce: 0x4c4b4a49}

// sized answers a transaction of just so many bytes, from 300 to 3000.
func sized(size int) api.Tx {
	t := api.Tx{Ins: []api.In{{Point: api.Point{N: uint16(size)}}}}
	b, _ := tx.Put(t)
	// The count of so long a row has two bytes more.
	t.Ins[0].Unlock = steps(byte(size), size-len(b)-2)
	return t
}

// some answers transactions of which each is another one.
func some(n int) []api.Tx {
	var txs []api.Tx
	for i := range n {
		txs = append(txs, api.Tx{
			Ins:   []api.In{{Point: api.Point{N: uint16(i)}, Unlock: steps(byte(i), 3)}},
			Outs:  []api.Out{{Value: uint64(i), Lock: steps(byte(i), 2)}, {Value: 7}},
			After: uint32(i),
		})
	}
	return txs
}

// ofSize answers a block of just so many bytes, from 16000 to 20000 and somewhat more.
func ofSize(size int) api.Block {
	b := api.Block{Head: someHead}
	left := size - 77
	for left > 5000 {
		b.Txs = append(b.Txs, sized(2500))
		left -= 2500
	}
	b.Txs = append(b.Txs, sized(left/2), sized(left-left/2))
	for i := range b.Txs {
		b.Txs[i].After = uint32(i)
	}
	return b
}

// bytesOf says what the bytes of a block are, of transactions that may be.
func bytesOf(b api.Block) []byte {
	text := join(head.Put(b.Head), []byte{byte(len(b.Txs))})
	for _, t := range b.Txs {
		one, _ := tx.Put(t)
		text = join(text, one)
	}
	return text
}

func idsOf(b api.Block) []api.Hash {
	var ids []api.Hash
	for _, t := range b.Txs {
		id, _ := tx.Id(t)
		ids = append(ids, id)
	}
	return ids
}

func isNone(b api.Block) bool { return b.Head == api.Head{} && len(b.Txs) == 0 }

func alike(a, b api.Block) bool { return bytes.Equal(bytesOf(a), bytesOf(b)) }

// get, read and seal call the program and hold an error's other results to be zero.
func get(t *testing.T, b []byte, at int) (api.Block, int, api.Errno) {
	t.Helper()
	x, next, e := block.Get(b, at)
	if e != api.OK && (!isNone(x) || next != 0) {
		t.Errorf("Get = %v, %d, %d", x, next, e)
	}
	return x, next, e
}

func read(t *testing.T, b []byte) (api.Block, api.Errno) {
	t.Helper()
	x, e := block.Read(b)
	if e != api.OK && !isNone(x) {
		t.Errorf("Read = %v, %d", x, e)
	}
	return x, e
}

func seal(t *testing.T, b api.Block) (api.Block, api.Errno) {
	t.Helper()
	x, e := block.Seal(b)
	if e != api.OK && !isNone(x) {
		t.Errorf("Seal = %v, %d", x, e)
	}
	return x, e
}

func may() []api.Block {
	return []api.Block{
		{Txs: []api.Tx{{}}}, {Head: someHead, Txs: some(1)}, {Head: someHead, Txs: some(3)}, {Head: someHead, Txs: some(16)},
		ofSize(19999), ofSize(20000),
	}
}

// badTxs are lists of transactions that no block has.
func badTxs() [][]api.Tx {
	long := api.Tx{Outs: []api.Out{{Value: api.MaxMoney + 1}}}
	return [][]api.Tx{
		nil, {}, some(17), some(300), {long}, append(some(15), long), append([]api.Tx{long}, some(3)...), {{Ins: make([]api.In, 17)}},
	}
}

// The chapter's examples.
func TestExamples(t *testing.T) {
	if b, e := block.Put(api.Block{}); len(b) != 0 || e != api.ErrArg {
		t.Errorf("Put(no transactions) = %x, %d", b, e)
	}
	if _, e := read(t, make([]byte, 76)); e != api.ErrShort {
		t.Errorf("Read(76 bytes): %d", e)
	}
	if _, e := read(t, make([]byte, 77)); e != api.ErrForm {
		t.Errorf("Read(77 bytes 0): %d", e)
	}
	if block.Sealed(api.Block{}) {
		t.Error("a block without transactions is sealed")
	}
	if b, e := block.Put(api.Block{Txs: []api.Tx{{}}}); len(b) != 83 || e != api.OK {
		t.Errorf("Put(one empty transaction) = %x, %d", b, e)
	}
}

// P10.1

func TestPut(t *testing.T) {
	for i, b := range may() {
		want := bytesOf(b)
		if text, e := block.Put(b); !bytes.Equal(text, want) || e != api.OK {
			t.Errorf("%d: Put = %x, %d", i, text, e)
		}
		if ids, e := block.Ids(b); !slices.Equal(ids, idsOf(b)) || e != api.OK {
			t.Errorf("%d: Ids = %x, %d", i, ids, e)
		}
	}
	for i, txs := range badTxs() {
		b := api.Block{Head: someHead, Txs: txs}
		text, e1 := block.Put(b)
		ids, e2 := block.Ids(b)
		_, e3 := seal(t, b)
		if len(text) != 0 || len(ids) != 0 || e1 != api.ErrArg || e2 != api.ErrArg || e3 != api.ErrArg || block.Sealed(b) {
			t.Errorf("%d: Put = %x, %d, Ids = %x, %d, Seal: %d", i, text, e1, ids, e2, e3)
		}
	}
	// Too many bytes: it may not be, but it has ids, and a root.
	for _, size := range []int{20001, 20002, 22000} {
		b := ofSize(size)
		if len(bytesOf(b)) != size {
			t.Fatalf("%d bytes, not %d", len(bytesOf(b)), size)
		}
		if text, e := block.Put(b); len(text) != 0 || e != api.ErrArg {
			t.Errorf("Put of %d bytes: %d, %d", size, len(text), e)
		}
		if ids, e := block.Ids(b); !slices.Equal(ids, idsOf(b)) || e != api.OK {
			t.Errorf("Ids of %d bytes: %d", size, e)
		}
		if s, e := seal(t, b); e != api.OK || !block.Sealed(s) {
			t.Errorf("Seal of %d bytes: %d", size, e)
		}
	}
}

// P10.2

func TestGet(t *testing.T) {
	for i, b := range may() {
		text := bytesOf(b)
		for _, ahead := range []int{0, 1, 80} {
			for _, behind := range [][]byte{nil, {0}, steps(200, 80)} {
				if got, next, e := get(t, join(steps(99, ahead), text, behind), ahead); !alike(got, b) || next != ahead+len(text) || e != api.OK {
					t.Errorf("%d: Get = %v, %d, %d", i, got, next, e)
				}
			}
		}
		if got, e := read(t, text); !alike(got, b) || !block.Same(got, b) || e != api.OK {
			t.Errorf("%d: Read = %v, %d", i, got, e)
		}
		for _, behind := range [][]byte{{0}, {255}, text} {
			if _, e := read(t, join(text, behind)); e != api.ErrForm {
				t.Errorf("%d: Read with %d more: %d", i, len(behind), e)
			}
		}
		// Room behind the end is none of the bytes.
		if got, e := read(t, join(text, []byte{0, 0})[:len(text)]); !alike(got, b) || e != api.OK {
			t.Errorf("%d: Read with room behind: %d", i, e)
		}
	}
	text := bytesOf(api.Block{Head: someHead, Txs: some(3)})
	for n := range text {
		_, _, e1 := get(t, text[:n:n], 0)
		_, _, e2 := get(t, join(steps(9, 3), text[:n]), 3)
		_, e3 := read(t, text[:n])
		if e1 != api.ErrShort || e2 != api.ErrShort || e3 != api.ErrShort {
			t.Errorf("%d bytes: %d, %d, %d", n, e1, e2, e3)
		}
	}
	for _, b := range [][]byte{nil, {1}, text} {
		for _, at := range []int{-1, math.MinInt, len(b) + 1, math.MaxInt} {
			if _, _, e := get(t, b, at); e != api.ErrArg {
				t.Errorf("Get at %d of %d bytes: %d", at, len(b), e)
			}
		}
		if _, _, e := get(t, b, len(b)); e != api.ErrShort {
			t.Errorf("Get at the end: %d", e)
		}
	}
}

func TestGetOfWhatMayNotBe(t *testing.T) {
	h := head.Put(someHead)
	one := make([]byte, 6)
	for i, c := range []struct {
		b []byte
		e api.Errno
	}{
		{[]byte{0}, api.ErrForm},
		{[]byte{17}, api.ErrLimit},
		{[]byte{252}, api.ErrLimit},
		{[]byte{253, 253, 0}, api.ErrLimit},
		{bytes.Repeat([]byte{255}, 9), api.ErrLimit},
		{[]byte{253, 0, 0}, api.ErrForm},
		{[]byte{253, 1, 0}, api.ErrForm},
		{[]byte{253, 17, 0}, api.ErrForm},
		{[]byte{1, 17}, api.ErrLimit},
		{[]byte{1, 253, 1, 0}, api.ErrForm},
		{join([]byte{2}, one, []byte{0, 17}), api.ErrLimit},
		{join([]byte{2}, one, []byte{0, 1}, bytes.Repeat([]byte{255}, 8)), api.ErrForm},
		{join([]byte{16}, bytes.Repeat(one, 15), []byte{17}), api.ErrLimit},
	} {
		for _, behind := range [][]byte{nil, {0}, make([]byte, 30000)} {
			b := join(h, c.b, behind)
			if _, _, e := get(t, b, 0); e != c.e {
				t.Errorf("%d: Get with %d more: %d, not %d", i, len(behind), e, c.e)
			}
			if _, e := read(t, b); e != c.e {
				t.Errorf("%d: Read with %d more: %d, not %d", i, len(behind), e, c.e)
			}
		}
	}
}

// More than MaxBlock bytes: told behind all else that is met, but ahead of bytes that are left.
func TestGetOfTooManyBytes(t *testing.T) {
	for _, size := range []int{20001, 20002, 22000} {
		text := bytesOf(ofSize(size))
		_, _, e1 := get(t, text, 0)
		_, _, e2 := get(t, join(steps(0, 5), text), 5)
		_, e3 := read(t, text)
		_, e4 := read(t, join(text, []byte{0}))
		if e1 != api.ErrLimit || e2 != api.ErrLimit || e3 != api.ErrLimit || e4 != api.ErrLimit {
			t.Errorf("%d bytes: %d, %d, %d, %d", size, e1, e2, e3, e4)
		}
		if _, e := read(t, text[:size-1]); e != api.ErrShort {
			t.Errorf("%d bytes and one less: %d", size, e)
		}
	}
	text := bytesOf(ofSize(20000))
	if b, next, e := get(t, join(make([]byte, 500), text), 500); isNone(b) || next != 20500 || e != api.OK {
		t.Errorf("20000 bytes: %d, %d", next, e)
	}
	// A transaction's own limit is met where it stands.
	text = join(head.Put(someHead), []byte{2})
	for range 2 {
		text = join(text, []byte{6})
		for range 6 {
			text = join(text, make([]byte, 38), []byte{253, 120, 5}, make([]byte, 1400))
		}
		text = join(text, make([]byte, 5))
	}
	if _, e := read(t, text); e != api.ErrLimit {
		t.Errorf("long transactions: %d", e)
	}
	if _, e := read(t, join(text[:77+8652], []byte{253})); e != api.ErrLimit {
		t.Errorf("a long transaction, and one that ends too soon: %d", e)
	}
}

// P10.3

func TestSeal(t *testing.T) {
	for i, b := range may() {
		root, _ := merkle.Root(idsOf(b))
		want := b
		want.Head.Root = root
		if block.Sealed(b) {
			t.Errorf("%d: is sealed ahead of it", i)
		}
		s, e := seal(t, b)
		if !alike(s, want) || e != api.OK || !block.Sealed(s) {
			t.Errorf("%d: Seal = %v, %d", i, s, e)
		}
		if again, e := seal(t, s); !alike(again, s) || e != api.OK {
			t.Errorf("%d: Seal of what is sealed = %v, %d", i, again, e)
		}
		for k := range 32 {
			spoilt := s
			spoilt.Head.Root[k]++
			if block.Sealed(spoilt) {
				t.Errorf("%d: with another byte %d of the root it is sealed", i, k)
			}
		}
		other := s
		other.Head.Nonce++
		other.Head.Prev[0]++
		if !block.Sealed(other) {
			t.Errorf("%d: with another nonce it is not sealed", i)
		}
		other.Txs = append(slices.Clone(s.Txs[:len(s.Txs)-1]), api.Tx{After: 9999})
		if block.Sealed(other) {
			t.Errorf("%d: with another transaction it is sealed", i)
		}
	}
	// Lists that are not sound: neighbours that are the same.
	a, b := some(2)[0], some(2)[1]
	for i, txs := range [][]api.Tx{{a, a}, {b, a, a, a}, {a, b, a, b}} {
		x := api.Block{Head: someHead, Txs: txs}
		if _, e := seal(t, x); e != api.ErrForm {
			t.Errorf("%d: Seal: %d", i, e)
		}
		x.Head.Root = api.Hash{}
		if block.Sealed(x) {
			t.Errorf("%d: is sealed", i)
		}
	}
	// The same transaction twice, where that is no pair, is no matter here.
	for i, txs := range [][]api.Tx{{a, b, b}, {a, b, a}} {
		if s, e := seal(t, api.Block{Txs: txs}); e != api.OK || !block.Sealed(s) {
			t.Errorf("%d: Seal: %d", i, e)
		}
	}
}

// P10.4: of bytes of which one is changed: what is got of them is put as just these.
func TestWhatIsGotIsPut(t *testing.T) {
	text := bytesOf(api.Block{Head: someHead, Txs: some(2)})
	got := 0
	for i := range text {
		for x := range 256 {
			b := bytes.Clone(text)
			b[i] = byte(x)
			c, next, e := get(t, b, 0)
			if e != api.OK {
				continue
			}
			got++
			if again, e := block.Put(c); e != api.OK || !bytes.Equal(again, b[:next]) {
				t.Errorf("Get(%x, 0) = %v, and that is put as %x, %d", b, c, again, e)
			}
		}
	}
	if got < 10000 {
		t.Errorf("just %d of the changed bytes are a block's", got)
	}
}

func TestSame(t *testing.T) {
	a := api.Block{Head: someHead, Txs: some(3)}
	if !block.Same(a, api.Block{Head: someHead, Txs: some(3)}) || !block.Same(api.Block{}, api.Block{Txs: []api.Tx{}}) {
		t.Error("a block is not the same as itself")
	}
	for i, change := range []func(*api.Block){
		func(b *api.Block) { b.Head.Nonce++ },
		func(b *api.Block) { b.Head.Prev[31]++ },
		func(b *api.Block) { b.Txs = b.Txs[:2] },
		func(b *api.Block) { b.Txs = nil },
		func(b *api.Block) { b.Txs = some(4) },
		func(b *api.Block) { b.Txs[0], b.Txs[1] = b.Txs[1], b.Txs[0] },
		func(b *api.Block) { b.Txs[2].Ins[0].Unlock = nil },
		func(b *api.Block) { b.Txs[2].Outs[1].Value++ },
	} {
		b := api.Block{Head: someHead, Txs: some(3)}
		change(&b)
		if block.Same(a, b) || block.Same(b, a) || !block.Same(b, b) {
			t.Errorf("%d: %v", i, b)
		}
	}
}

// The rules that hold everywhere: what is handed in stays as it is, what is answered is new memory.

func overwrite(b []byte) {
	b = b[:cap(b)]
	for i := range b {
		b[i] ^= 255
	}
}

// spoil changes all that a block has, the room behind its lists too.
func spoil(b api.Block) {
	txs := b.Txs[:cap(b.Txs)]
	for i := range txs {
		ins, outs := txs[i].Ins[:cap(txs[i].Ins)], txs[i].Outs[:cap(txs[i].Outs)]
		for k := range ins {
			overwrite(ins[k].Unlock)
			ins[k] = api.In{}
		}
		for k := range outs {
			overwrite(outs[k].Lock)
			outs[k] = api.Out{}
		}
		txs[i] = api.Tx{}
	}
}

func TestMemory(t *testing.T) {
	want := bytesOf(api.Block{Head: someHead, Txs: some(3)})
	room := join(steps(9, 5), want, steps(100, 90))
	was := bytes.Clone(room)
	one, _, _ := block.Get(room[5:5+len(want)], 0)
	two, _ := block.Read(room[5 : 5+len(want)])
	spoil(one)
	if !bytes.Equal(room, was) || !bytes.Equal(bytesOf(two), want) {
		t.Error("what is got shares memory")
	}

	txs := some(5)
	b := api.Block{Head: someHead, Txs: txs[:3]}
	whole := api.Block{Head: someHead, Txs: txs}
	wasWhole := bytesOf(whole)
	text, _ := block.Put(b)
	again, _ := block.Put(b)
	ids, _ := block.Ids(b)
	moreIds, _ := block.Ids(b)
	sealed, _ := block.Seal(b)
	other, _ := block.Seal(b)
	wasSealed := bytesOf(other)
	block.Sealed(b)
	block.Same(b, b)
	overwrite(text)
	for i := range ids[:cap(ids)] {
		ids[:cap(ids)][i] = api.Hash{}
	}
	spoil(sealed)
	if !bytes.Equal(bytesOf(whole), wasWhole) || b.Head != someHead {
		t.Error("what was handed in has changed")
	}
	if !bytes.Equal(again, want) || !slices.Equal(moreIds, idsOf(b)) || !bytes.Equal(bytesOf(other), wasSealed) {
		t.Error("two answers share memory")
	}
	spoil(whole)
	if !bytes.Equal(bytesOf(other), wasSealed) {
		t.Error("an answer shares memory with what was handed in")
	}
}
