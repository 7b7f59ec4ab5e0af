package tx_test

import (
	"bytes"
	"math"
	"slices"
	"testing"

	"moneyer/api"
	"moneyer/coin"
	"moneyer/ends"
	"moneyer/sha"
	"moneyer/tx"
)

// steps are n bytes that go up from the first one, so that no piece of them is like its neighbour.
func steps(first byte, n int) []byte {
	b := make([]byte, n)
	for i := range b {
		b[i] = first + byte(i)
	}
	return b
}

func join(parts ...[]byte) []byte { return bytes.Join(parts, nil) }

var (
	point1 = api.Point{Tx: api.Hash(steps(1, 32)), N: 0x0201, Height: 0x06050403}
	point2 = api.Point{Tx: api.Hash(steps(40, 32)), N: 3, Height: 2}
	text1  = join(steps(1, 32), []byte{1, 2, 3, 4, 5, 6})
	text2  = join(steps(40, 32), []byte{3, 0, 2, 0, 0, 0})
)

// some answers a transaction that has of everything more than one, and its bytes.
func some() (api.Tx, []byte) {
	t := api.Tx{
		Ins:   []api.In{{Point: point1, Unlock: []byte{7, 8, 9}}, {Point: point2}},
		Outs:  []api.Out{{Value: 258, Lock: []byte{5}}, {Value: 3}, {Value: api.MaxMoney, Lock: steps(0, 100)}},
		After: 0x0d0c0b0a,
	}
	b := join([]byte{2}, text1, []byte{3, 7, 8, 9}, text2, []byte{0},
		[]byte{3}, []byte{2, 1, 0, 0, 0, 0, 0, 0, 1, 5}, []byte{3, 0, 0, 0, 0, 0, 0, 0, 0}, []byte{0, 0, 0, 0, 0, 0, 4, 0, 100}, steps(0, 100),
		[]byte{0x0a, 0x0b, 0x0c, 0x0d})
	return t, b
}

// wide answers a transaction of so many inputs and outputs, with unlocks and locks of so many bytes.
func wide(ins, unlock, outs, lock int) api.Tx {
	var t api.Tx
	for i := range ins {
		t.Ins = append(t.Ins, api.In{Point: api.Point{N: uint16(i)}, Unlock: steps(byte(i), unlock)})
	}
	for i := range outs {
		t.Outs = append(t.Outs, api.Out{Value: uint64(i), Lock: steps(byte(i), lock)})
	}
	return t
}

// ofSize answers a transaction of just so many bytes, from 7000 to 9000.
func ofSize(size int) api.Tx {
	t := wide(5, 1500, 1, 0)
	b := bytesOf(t)
	t.Ins[4].Unlock = make([]byte, 1500+size-len(b))
	return t
}

// bytesOf says what the bytes of a transaction are, whether it may be or not.
func bytesOf(t api.Tx) []byte {
	b := ends.Count(uint64(len(t.Ins)))
	for _, in := range t.Ins {
		b = join(b, coin.PutPoint(in.Point), ends.Row(in.Unlock))
	}
	b = join(b, ends.Count(uint64(len(t.Outs))))
	for _, out := range t.Outs {
		value, _ := ends.Put(out.Value, 8)
		b = join(b, value, ends.Row(out.Lock))
	}
	after, _ := ends.Put(uint64(t.After), 4)
	return join(b, after)
}

func isNone(t api.Tx) bool { return len(t.Ins) == 0 && len(t.Outs) == 0 && t.After == 0 }

func alike(a, b api.Tx) bool { return bytes.Equal(bytesOf(a), bytesOf(b)) }

// get and read call the program and hold an error's other results to be zero.
func get(t *testing.T, b []byte, at int) (api.Tx, int, api.Errno) {
	t.Helper()
	x, next, e := tx.Get(b, at)
	if e != api.OK && (!isNone(x) || next != 0) {
		t.Errorf("Get = %v, %d, %d", x, next, e)
	}
	return x, next, e
}

func read(t *testing.T, b []byte) (api.Tx, api.Errno) {
	t.Helper()
	x, e := tx.Read(b)
	if e != api.OK && !isNone(x) {
		t.Errorf("Read = %v, %d", x, e)
	}
	return x, e
}

// may are transactions that may be; mayNot are some that may not.
func may() []api.Tx {
	t, _ := some()
	return []api.Tx{
		{}, {After: math.MaxUint32}, {Ins: []api.In{}, Outs: []api.Out{}}, t,
		wide(16, 0, 0, 0), wide(0, 0, 16, 0), wide(16, 0, 16, 0), wide(1, 3000, 0, 0), wide(1, 252, 1, 0), wide(1, 253, 1, 100), wide(2, 3000, 16, 100),
		{Outs: []api.Out{{Value: api.MaxMoney}, {Value: api.MaxMoney}}},
		{Ins: []api.In{{Point: point1}, {Point: point1}}},
		ofSize(7999), ofSize(8000),
	}
}

func mayNot() []api.Tx {
	return []api.Tx{
		wide(17, 0, 0, 0), wide(0, 0, 17, 0), wide(17, 0, 17, 0), wide(253, 0, 0, 0), wide(1000, 0, 0, 0),
		wide(1, 3001, 0, 0), wide(1, 65536, 0, 0), wide(0, 0, 1, 101), wide(1, 10, 3, 300),
		{Outs: []api.Out{{Value: api.MaxMoney + 1}}}, {Outs: []api.Out{{}, {Value: math.MaxUint64}}},
		ofSize(8001), ofSize(8002), ofSize(8900), wide(3, 3000, 0, 0),
	}
}

// The chapter's examples.
func TestExamples(t *testing.T) {
	if b, e := tx.Put(api.Tx{}); len(b) != 6 || e != api.OK {
		t.Errorf("Put(an empty one) = %x, %d", b, e)
	}
	if _, e := read(t, nil); e != api.ErrShort {
		t.Errorf("Read(none): %d", e)
	}
	if x, e := read(t, make([]byte, 6)); !isNone(x) || e != api.OK {
		t.Errorf("Read(6 bytes 0) = %v, %d", x, e)
	}
	if _, e := read(t, make([]byte, 7)); e != api.ErrForm {
		t.Errorf("Read(7 bytes 0): %d", e)
	}
	if _, e := read(t, []byte{17}); e != api.ErrLimit {
		t.Errorf("Read(17): %d", e)
	}
	if h, e := tx.Digest(api.Tx{}, 0, api.Coin{}); h != (api.Hash{}) || e != api.ErrArg {
		t.Errorf("Digest(an empty one) = %x, %d", h, e)
	}
}

// P7.1

func TestPut(t *testing.T) {
	x, want := some()
	if b, e := tx.Put(x); !bytes.Equal(b, want) || e != api.OK {
		t.Errorf("Put = %x, %d", b, e)
	}
	for i, x := range may() {
		b, e := tx.Put(x)
		if !bytes.Equal(b, bytesOf(x)) || e != api.OK || !tx.May(x) {
			t.Errorf("%d: Put = %x, %d", i, b, e)
		}
		if id, e := tx.Id(x); id != sha.Twice(b) || e != api.OK {
			t.Errorf("%d: Id = %x, %d", i, id, e)
		}
	}
}

func TestWhatMayNotBe(t *testing.T) {
	for i, x := range mayNot() {
		b, e1 := tx.Put(x)
		id, e2 := tx.Id(x)
		d, e3 := tx.Digest(x, 0, api.Coin{})
		if tx.May(x) || len(b) != 0 || id != (api.Hash{}) || d != (api.Hash{}) || e1 != api.ErrArg || e2 != api.ErrArg || e3 != api.ErrArg {
			t.Errorf("%d: May = %t, Put = %x, %d, Id = %x, %d, Digest = %x, %d", i, tx.May(x), b, e1, id, e2, d, e3)
		}
	}
}

func TestDigest(t *testing.T) {
	x, text := some()
	c := api.Coin{Point: point1, Value: 9, Base: true, Lock: []byte{4, 4}}
	spent, _ := coin.Put(c)
	bare := join(text[:39], []byte{0}, text[43:])
	for n := range x.Ins {
		want := sha.Twice(join(bare, []byte{byte(n), 0}, spent))
		if d, e := tx.Digest(x, n, c); d != want || e != api.OK {
			t.Errorf("Digest of %d = %x, %d", n, d, e)
		}
	}
	last := wide(16, 3, 0, 0)
	want := sha.Twice(join(bytesOf(wide(16, 0, 0, 0)), []byte{15, 0}, spent))
	if d, e := tx.Digest(last, 15, c); d != want || e != api.OK {
		t.Errorf("Digest of 15 = %x, %d", d, e)
	}
	for _, n := range []int{-1, math.MinInt, 2, 3, 65536, math.MaxInt} {
		if d, e := tx.Digest(x, n, c); d != (api.Hash{}) || e != api.ErrArg {
			t.Errorf("Digest of %d = %x, %d", n, d, e)
		}
	}
	for i, c := range []api.Coin{{Value: api.MaxMoney + 1}, {Lock: make([]byte, 101)}} {
		if d, e := tx.Digest(x, 0, c); d != (api.Hash{}) || e != api.ErrArg {
			t.Errorf("%d: Digest = %x, %d", i, d, e)
		}
	}
}

// P7.3: unlocks do not change what is signed, everything else does.
func TestWhatIsSigned(t *testing.T) {
	c := api.Coin{Point: point1, Value: 9}
	x, _ := some()
	was, _ := tx.Digest(x, 1, c)
	for _, unlock := range [][]byte{nil, {}, {1}, steps(0, 3000)} {
		y, _ := some()
		y.Ins[0].Unlock, y.Ins[1].Unlock = unlock, []byte{6, 6}
		if d, e := tx.Digest(y, 1, c); d != was || e != api.OK {
			t.Errorf("an unlock of %d bytes: %x, %d", len(unlock), d, e)
		}
	}
	for i, change := range []func(*api.Tx, *api.Coin){
		func(x *api.Tx, _ *api.Coin) { x.Ins[0].Point.N++ },
		func(x *api.Tx, _ *api.Coin) { x.Ins = x.Ins[:2:2]; x.Ins = append(x.Ins, api.In{}) },
		func(x *api.Tx, _ *api.Coin) { x.Outs[1].Value++ },
		func(x *api.Tx, _ *api.Coin) { x.Outs[1].Lock = []byte{1} },
		func(x *api.Tx, _ *api.Coin) { x.Outs = x.Outs[:2] },
		func(x *api.Tx, _ *api.Coin) { x.After++ },
		func(_ *api.Tx, c *api.Coin) { c.Point.N++ },
		func(_ *api.Tx, c *api.Coin) { c.Value++ },
		func(_ *api.Tx, c *api.Coin) { c.Base = true },
		func(_ *api.Tx, c *api.Coin) { c.Lock = []byte{0} },
	} {
		y, _ := some()
		d := c
		change(&y, &d)
		if got, e := tx.Digest(y, 1, d); got == was || e != api.OK {
			t.Errorf("%d: %x, %d", i, got, e)
		}
	}
	if other, _ := tx.Digest(x, 0, c); other == was {
		t.Error("two inputs have one digest")
	}
}

// P7.2

func TestGet(t *testing.T) {
	for i, x := range may() {
		text := bytesOf(x)
		for _, ahead := range []int{0, 1, 9} {
			for _, behind := range [][]byte{nil, {0}, {255, 255, 255}} {
				if got, next, e := get(t, join(steps(70, ahead), text, behind), ahead); !alike(got, x) || next != ahead+len(text) || e != api.OK {
					t.Errorf("%d: Get = %v, %d, %d", i, got, next, e)
				}
			}
		}
		if got, e := read(t, text); !alike(got, x) || !tx.Same(got, x) || e != api.OK {
			t.Errorf("%d: Read = %v, %d", i, got, e)
		}
		for _, behind := range [][]byte{{0}, {255}, text} {
			if _, e := read(t, join(text, behind)); e != api.ErrForm {
				t.Errorf("%d: Read with %d more: %d", i, len(behind), e)
			}
		}
		// Room behind the end is none of the bytes.
		if got, e := read(t, join(text, []byte{0, 0})[:len(text)]); !alike(got, x) || e != api.OK {
			t.Errorf("%d: Read with room behind = %v, %d", i, got, e)
		}
	}
}

func TestBytesThatEndTooSoon(t *testing.T) {
	_, text := some()
	for _, text := range [][]byte{make([]byte, 6), text, bytesOf(wide(2, 253, 2, 1))} {
		for n := range text {
			_, _, e1 := get(t, text[:n:n], 0)
			_, _, e2 := get(t, text[:n], 0)
			_, _, e3 := get(t, join(steps(70, 3), text[:n]), 3)
			_, e4 := read(t, text[:n])
			if e1 != api.ErrShort || e2 != api.ErrShort || e3 != api.ErrShort || e4 != api.ErrShort {
				t.Errorf("%d of %d bytes: %d, %d, %d, %d", n, len(text), e1, e2, e3, e4)
			}
		}
	}
}

func TestPlaces(t *testing.T) {
	_, text := some()
	for _, b := range [][]byte{nil, {}, {1}, {17}, make([]byte, 12), text} {
		for _, at := range []int{-1, math.MinInt, len(b) + 1, math.MaxInt} {
			if _, _, e := get(t, b, at); e != api.ErrArg {
				t.Errorf("Get at %d of %d bytes: %d", at, len(b), e)
			}
		}
		if _, _, e := get(t, b, len(b)); e != api.ErrShort {
			t.Errorf("Get at the end of %d bytes: %d", len(b), e)
		}
	}
}

// What may not be, from the left: the first fault is told, whatever stands behind it, or does not.
func TestGetOfWhatMayNotBe(t *testing.T) {
	huge := bytes.Repeat([]byte{255}, 9)
	above := []byte{1, 0, 0, 0, 0, 0, 4, 0}
	for i, c := range []struct {
		b []byte
		e api.Errno
	}{
		{[]byte{17}, api.ErrLimit},
		{[]byte{252}, api.ErrLimit},
		{[]byte{253, 253, 0}, api.ErrLimit},
		{huge, api.ErrLimit},
		{[]byte{253, 1, 0}, api.ErrForm},
		{[]byte{253, 17, 0}, api.ErrForm},
		{[]byte{254, 0, 0, 0, 0}, api.ErrForm},
		{[]byte{253, 17}, api.ErrShort},
		{join([]byte{1}, text1, []byte{253, 184, 11}), api.ErrShort},
		{join([]byte{1}, text1, []byte{253, 185, 11}), api.ErrLimit},
		{join([]byte{1}, text1, huge), api.ErrLimit},
		{join([]byte{1}, text1, []byte{253, 3, 0}), api.ErrForm},
		{join([]byte{2}, text1, []byte{0}, text2, []byte{253, 185, 11}), api.ErrLimit},
		{[]byte{0, 17}, api.ErrLimit},
		{join([]byte{0}, huge), api.ErrLimit},
		{[]byte{0, 253, 16, 0}, api.ErrForm},
		{join([]byte{0, 1}, above), api.ErrForm},
		{join([]byte{0, 1}, above, []byte{101}), api.ErrForm},
		{join([]byte{0, 1}, make([]byte, 8), []byte{101}), api.ErrLimit},
		{join([]byte{0, 1}, make([]byte, 8), []byte{253, 0, 0}), api.ErrForm},
		{join([]byte{0, 2}, make([]byte, 9), above), api.ErrForm},
		{join([]byte{0, 2}, make([]byte, 9), make([]byte, 8), []byte{253, 253, 0}), api.ErrLimit},
		{join([]byte{1}, text1, []byte{0, 17}), api.ErrLimit},
	} {
		for _, behind := range [][]byte{nil, {0}, make([]byte, 20000)} {
			e := c.e
			if e == api.ErrShort && behind != nil {
				continue
			}
			b := join(c.b, behind)
			if _, _, got := get(t, b, 0); got != e {
				t.Errorf("%d: Get with %d more: %d, not %d", i, len(behind), got, e)
			}
			if _, got := read(t, b); got != e {
				t.Errorf("%d: Read with %d more: %d, not %d", i, len(behind), got, e)
			}
		}
	}
}

// More than MaxTx bytes: told behind all else that is met, but ahead of bytes that are left.
func TestGetOfTooManyBytes(t *testing.T) {
	for _, size := range []int{8001, 8002, 8900} {
		text := bytesOf(ofSize(size))
		if len(text) != size {
			t.Fatalf("%d bytes, not %d", len(text), size)
		}
		_, _, e1 := get(t, text, 0)
		_, _, e2 := get(t, join(steps(0, 5), text), 5)
		_, e3 := read(t, text)
		_, e4 := read(t, join(text, []byte{0}))
		if e1 != api.ErrLimit || e2 != api.ErrLimit || e3 != api.ErrLimit || e4 != api.ErrLimit {
			t.Errorf("%d bytes: %d, %d, %d, %d", size, e1, e2, e3, e4)
		}
		if _, e := read(t, text[:size-1]); e != api.ErrShort {
			t.Errorf("%d bytes and one less: %d", size, e)
		}
	}
	text := bytesOf(ofSize(8000))
	if x, next, e := get(t, join(make([]byte, 500), text), 500); len(x.Ins) != 5 || next != 8500 || e != api.OK {
		t.Errorf("8000 bytes: %d, %d", next, e)
	}
}

// P7.3: of bytes of which one is changed: what is got of them is put as just these.
func TestWhatIsGotIsPut(t *testing.T) {
	_, text := some()
	got := 0
	for i := range text {
		for x := range 256 {
			b := bytes.Clone(text)
			b[i] = byte(x)
			c, next, e := get(t, b, 0)
			if e != api.OK {
				continue
			}
			got++
			if again, e := tx.Put(c); e != api.OK || !bytes.Equal(again, b[:next]) {
				t.Errorf("Get(%x, 0) = %v, and that is put as %x, %d", b, c, again, e)
			}
		}
	}
	if got < 10000 {
		t.Errorf("just %d of the changed bytes are a transaction's", got)
	}
}

func TestSame(t *testing.T) {
	x, _ := some()
	y, _ := some()
	if !tx.Same(x, y) || !tx.Same(api.Tx{}, api.Tx{Ins: []api.In{}, Outs: []api.Out{}}) {
		t.Error("a transaction is not the same as itself")
	}
	y.Ins[1].Unlock, y.Outs[1].Lock = []byte{}, []byte{}
	if !tx.Same(x, y) || !tx.Same(y, x) {
		t.Error("none and a list without elements are not the same")
	}
	for i, change := range []func(*api.Tx){
		func(y *api.Tx) { y.After++ },
		func(y *api.Tx) { y.Ins = y.Ins[:1] },
		func(y *api.Tx) { y.Ins = nil },
		func(y *api.Tx) { y.Ins[0], y.Ins[1] = y.Ins[1], y.Ins[0] },
		func(y *api.Tx) { y.Ins[1].Point.Height++ },
		func(y *api.Tx) { y.Ins[0].Unlock = []byte{7, 8, 10} },
		func(y *api.Tx) { y.Ins[0].Unlock = []byte{7, 8} },
		func(y *api.Tx) { y.Outs = y.Outs[:2] },
		func(y *api.Tx) { y.Outs = append(y.Outs, api.Out{}) },
		func(y *api.Tx) { y.Outs[1].Value = math.MaxUint64 },
		func(y *api.Tx) { y.Outs[0].Lock = []byte{6} },
		func(y *api.Tx) { y.Outs[0].Lock = nil },
	} {
		y, _ := some()
		change(&y)
		if tx.Same(x, y) || tx.Same(y, x) || !tx.Same(y, y) {
			t.Errorf("%d: %v", i, y)
		}
	}
}

// The rules that hold everywhere: what is handed in stays as it is, what is answered is new memory.

func overwrite(b []byte) {
	b = b[:cap(b)]
	for i := range b {
		b[i] ^= 255
	}
}

// spoil changes all that a transaction has, the room behind its lists too.
func spoil(x api.Tx) {
	for i := range x.Ins[:cap(x.Ins)] {
		in := &x.Ins[:cap(x.Ins)][i]
		overwrite(in.Unlock)
		*in = api.In{}
	}
	for i := range x.Outs[:cap(x.Outs)] {
		out := &x.Outs[:cap(x.Outs)][i]
		overwrite(out.Lock)
		*out = api.Out{}
	}
}

func TestArgumentsStay(t *testing.T) {
	x, text := some()
	room := join(steps(50, 9), text, steps(60, 99))
	was := bytes.Clone(room)
	in := room[9 : 9+len(text)]
	got, _, _ := tx.Get(in, 0)
	again, _ := tx.Read(in)
	spoil(got)
	spoil(again)
	if !bytes.Equal(room, was) {
		t.Error("what is got shares memory with what was handed in")
	}

	locks := join(steps(0, 9), steps(90, 30))
	wasLocks := bytes.Clone(locks)
	x.Ins = append(make([]api.In, 0, 9), x.Ins...)
	x.Outs = append(make([]api.Out, 0, 9), x.Outs...)
	x.Ins[0].Unlock, x.Ins[1].Unlock, x.Outs[0].Lock = locks[:3], locks[3:5], locks[5:9]
	wide := api.Tx{Ins: x.Ins[:9], Outs: x.Outs[:9], After: x.After}
	wasText := bytesOf(wide)
	c := api.Coin{Lock: locks[:4]}
	b, _ := tx.Put(x)
	tx.Id(x)
	tx.Digest(x, 1, c)
	tx.May(x)
	tx.Same(x, x)
	overwrite(b)
	if !bytes.Equal(locks, wasLocks) || !bytes.Equal(bytesOf(wide), wasText) {
		t.Error("what was put has changed")
	}
}

func TestAnswersAreNew(t *testing.T) {
	x, text := some()
	first, _ := tx.Put(x)
	second, _ := tx.Put(x)
	overwrite(first)
	if !bytes.Equal(second, text) {
		t.Error("two answers of Put share memory")
	}
	one, _ := tx.Read(text)
	other, _ := tx.Read(text)
	spoil(one)
	if !alike(other, x) {
		t.Error("two answers of Read share memory")
	}
	// Within one answer no two lists share any: what is put behind one of them is not in another one.
	for i := range other.Ins {
		overwrite(other.Ins[i].Unlock)
	}
	if !slices.EqualFunc(other.Outs, x.Outs, func(a, b api.Out) bool { return bytes.Equal(a.Lock, b.Lock) }) {
		t.Error("unlocks and locks share memory")
	}
}
