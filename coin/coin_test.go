package coin_test

import (
	"bytes"
	"math"
	"slices"
	"testing"

	"moneyer/api"
	"moneyer/coin"
)

// steps are n bytes that go up from the first one, so that no piece of them is like its neighbour.
func steps(first byte, n int) []byte {
	b := make([]byte, n)
	for i := range b {
		b[i] = first + byte(i)
	}
	return b
}

func join(parts ...[]byte) []byte { return bytes.Join(parts, nil) }

var (
	point      = api.Point{Tx: api.Hash(steps(1, 32)), N: 0x0201, Height: 0x06050403}
	pointBytes = join(steps(1, 32), []byte{1, 2, 3, 4, 5, 6})
	// MaxMoney is 2^50; one more, and the greatest number.
	most      = []byte{0, 0, 0, 0, 0, 0, 4, 0}
	aboveMost = []byte{1, 0, 0, 0, 0, 0, 4, 0}
	allSet    = bytes.Repeat([]byte{255}, 8)
	five      = []byte{5, 0, 0, 0, 0, 0, 0, 0}
)

func points() []api.Point {
	return []api.Point{
		{}, point, {Tx: api.Hash(bytes.Repeat([]byte{255}, 32)), N: 65535, Height: math.MaxUint32},
		{N: 1}, {N: 256}, {Height: 1}, {Height: 256}, {Height: 1 << 24}, {Tx: api.Hash{0: 1}}, {Tx: api.Hash{31: 1}},
	}
}

func locks() [][]byte {
	return [][]byte{nil, {}, {0}, {255}, {253, 1}, steps(9, 99), steps(9, 100)}
}

func values() map[uint64][]byte {
	return map[uint64][]byte{
		0: make([]byte, 8), 5: five, 0x0003060504030201: {1, 2, 3, 4, 5, 6, 3, 0}, 1<<50 - 1: {255, 255, 255, 255, 255, 255, 3, 0}, 1 << 50: most,
	}
}

// row says what a row of at most 252 bytes is.
func row(b []byte) []byte { return join([]byte{byte(len(b))}, b) }

// each hands on outputs and coins that may be, with their bytes.
func each(out func(api.Out, []byte), full func(api.Coin, []byte)) {
	for value, valueBytes := range values() {
		for _, lock := range locks() {
			out(api.Out{Value: value, Lock: lock}, join(valueBytes, row(lock)))
			for _, p := range points() {
				for _, base := range []bool{false, true} {
					mark := []byte{0}
					if base {
						mark[0] = 1
					}
					full(api.Coin{Point: p, Value: value, Base: base, Lock: lock}, join(coin.PutPoint(p), valueBytes, mark, row(lock)))
				}
			}
		}
	}
}

func sameOut(a, b api.Out) bool { return a.Value == b.Value && bytes.Equal(a.Lock, b.Lock) }

func sameCoin(a, b api.Coin) bool {
	return a.Point.Tx == b.Point.Tx && a.Point.N == b.Point.N && a.Point.Height == b.Point.Height && a.Value == b.Value && a.Base == b.Base && bytes.Equal(a.Lock, b.Lock)
}

func noOut(o api.Out) bool { return sameOut(o, api.Out{}) }

func noCoin(c api.Coin) bool { return sameCoin(c, api.Coin{}) }

// getOut and the others call the program and hold an error's other results to be zero.
func getOut(t *testing.T, b []byte, at int) (api.Out, int, api.Errno) {
	t.Helper()
	o, next, e := coin.GetOut(b, at)
	if e != api.OK && (!noOut(o) || next != 0) {
		t.Errorf("GetOut(%x, %d) = %v, %d, %d", b, at, o, next, e)
	}
	return o, next, e
}

func get(t *testing.T, b []byte, at int) (api.Coin, int, api.Errno) {
	t.Helper()
	c, next, e := coin.Get(b, at)
	if e != api.OK && (!noCoin(c) || next != 0) {
		t.Errorf("Get(%x, %d) = %v, %d, %d", b, at, c, next, e)
	}
	return c, next, e
}

func getPoint(t *testing.T, b []byte, at int) (api.Point, int, api.Errno) {
	t.Helper()
	p, next, e := coin.GetPoint(b, at)
	if e != api.OK && (p != (api.Point{}) || next != 0) {
		t.Errorf("GetPoint(%x, %d) = %v, %d, %d", b, at, p, next, e)
	}
	return p, next, e
}

func read(t *testing.T, b []byte) (api.Coin, api.Errno) {
	t.Helper()
	c, e := coin.Read(b)
	if e != api.OK && !noCoin(c) {
		t.Errorf("Read(%x) = %v, %d", b, c, e)
	}
	return c, e
}

// P6.1

func TestPutPoint(t *testing.T) {
	if b := coin.PutPoint(api.Point{}); !bytes.Equal(b, make([]byte, 38)) {
		t.Errorf("PutPoint(zero) = %x", b)
	}
	if b := coin.PutPoint(point); !bytes.Equal(b, pointBytes) {
		t.Errorf("PutPoint(%v) = %x", point, b)
	}
	if b := coin.PutPoint(api.Point{Tx: api.Hash(bytes.Repeat([]byte{255}, 32)), N: 65535, Height: math.MaxUint32}); !bytes.Equal(b, bytes.Repeat([]byte{255}, 38)) {
		t.Errorf("PutPoint of the greatest = %x", b)
	}
	for i := range 38 {
		want := make([]byte, 38)
		want[i] = 129
		var p api.Point
		switch {
		case i < 32:
			p.Tx[i] = 129
		case i < 34:
			p.N = 129 << (8 * (i - 32))
		default:
			p.Height = 129 << (8 * (i - 34))
		}
		if b := coin.PutPoint(p); !bytes.Equal(b, want) {
			t.Errorf("PutPoint(%v) = %x", p, b)
		}
	}
}

func TestGetPoint(t *testing.T) {
	for _, ahead := range []int{0, 1, 40} {
		for _, behind := range []int{0, 1, 40} {
			b := join(steps(90, ahead), pointBytes, steps(190, behind))
			if p, next, e := getPoint(t, b, ahead); p != point || next != ahead+38 || e != api.OK {
				t.Errorf("GetPoint(%x, %d) = %v, %d, %d", b, ahead, p, next, e)
			}
		}
	}
	for n := range 38 {
		if _, _, e := getPoint(t, pointBytes[:n:n], 0); e != api.ErrShort {
			t.Errorf("GetPoint of %d bytes: %d", n, e)
		}
		if _, _, e := getPoint(t, pointBytes, n+1); e != api.ErrShort {
			t.Errorf("GetPoint at %d: %d", n+1, e)
		}
	}
	if _, _, e := getPoint(t, nil, 0); e != api.ErrShort {
		t.Errorf("GetPoint(none, 0): %d", e)
	}
}

// Places below 0 and behind the end are ErrArg, whatever stands there; at the end bytes are too few.
func TestPlaces(t *testing.T) {
	whole := join(pointBytes, five, []byte{1}, row(nil))
	for _, b := range [][]byte{nil, {}, {1}, whole, join(whole, whole), join(pointBytes, allSet)} {
		for _, at := range []int{-1, -2, -38, math.MinInt, len(b) + 1, len(b) + 2, math.MaxInt} {
			_, _, e1 := getPoint(t, b, at)
			_, _, e2 := getOut(t, b, at)
			_, _, e3 := get(t, b, at)
			if e1 != api.ErrArg || e2 != api.ErrArg || e3 != api.ErrArg {
				t.Errorf("at %d of %d bytes: %d, %d, %d", at, len(b), e1, e2, e3)
			}
		}
		_, _, e1 := getPoint(t, b, len(b))
		_, _, e2 := getOut(t, b, len(b))
		_, _, e3 := get(t, b, len(b))
		if e1 != api.ErrShort || e2 != api.ErrShort || e3 != api.ErrShort {
			t.Errorf("at the end of %d bytes: %d, %d, %d", len(b), e1, e2, e3)
		}
	}
}

// P6.2

func TestPut(t *testing.T) {
	if b, e := coin.Put(api.Coin{Value: 5}); len(b) != 48 || e != api.OK {
		t.Errorf("Put of a coin of 5 without a lock = %x, %d", b, e)
	}
	each(func(o api.Out, want []byte) {
		if b, e := coin.PutOut(o); !bytes.Equal(b, want) || e != api.OK {
			t.Errorf("PutOut(%v) = %x, %d", o, b, e)
		}
	}, func(c api.Coin, want []byte) {
		if b, e := coin.Put(c); !bytes.Equal(b, want) || e != api.OK {
			t.Errorf("Put(%v) = %x, %d", c, b, e)
		}
	})
}

func TestPutWhatMayNotBe(t *testing.T) {
	for _, o := range []api.Out{
		{Value: api.MaxMoney + 1}, {Value: 1 << 51}, {Value: 1 << 63}, {Value: math.MaxUint64}, {Value: api.MaxMoney + 1, Lock: steps(0, 100)},
		{Lock: steps(0, 101)}, {Value: api.MaxMoney, Lock: steps(0, 101)}, {Lock: make([]byte, 252)}, {Lock: make([]byte, 256)}, {Lock: make([]byte, 70000)}, {Value: math.MaxUint64, Lock: make([]byte, 300)},
	} {
		if b, e := coin.PutOut(o); len(b) != 0 || e != api.ErrArg {
			t.Errorf("PutOut of %d and %d bytes = %x, %d", o.Value, len(o.Lock), b, e)
		}
		for _, base := range []bool{false, true} {
			if b, e := coin.Put(api.Coin{Point: point, Value: o.Value, Base: base, Lock: o.Lock}); len(b) != 0 || e != api.ErrArg {
				t.Errorf("Put of %d and %d bytes = %x, %d", o.Value, len(o.Lock), b, e)
			}
		}
	}
}

// P6.3

func TestGet(t *testing.T) {
	for _, ahead := range []int{0, 1, 9} {
		for _, behind := range [][]byte{nil, {0}, {255, 255, 255}} {
			each(func(o api.Out, text []byte) {
				b := join(steps(70, ahead), text, behind)
				if got, next, e := getOut(t, b, ahead); !sameOut(got, o) || next != ahead+len(text) || e != api.OK {
					t.Errorf("GetOut(%x, %d) = %v, %d, %d", b, ahead, got, next, e)
				}
			}, func(c api.Coin, text []byte) {
				b := join(steps(70, ahead), text, behind)
				if got, next, e := get(t, b, ahead); !sameCoin(got, c) || next != ahead+len(text) || e != api.OK {
					t.Errorf("Get(%x, %d) = %v, %d, %d", b, ahead, got, next, e)
				}
				got, e := read(t, text)
				if !sameCoin(got, c) || e != api.OK {
					t.Errorf("Read(%x) = %v, %d", text, got, e)
				}
			})
		}
	}
}

// Bytes that end at each place within an output, a coin; with room behind that goes on, and without.
func TestGetOfBytesThatEndTooSoon(t *testing.T) {
	each(func(_ api.Out, text []byte) {
		for n := range text {
			_, _, e1 := getOut(t, text[:n:n], 0)
			_, _, e2 := getOut(t, text[:n], 0)
			_, _, e3 := getOut(t, join(steps(70, 3), text[:n]), 3)
			if e1 != api.ErrShort || e2 != api.ErrShort || e3 != api.ErrShort {
				t.Errorf("GetOut(%x): %d, %d, %d", text[:n], e1, e2, e3)
			}
		}
	}, func(c api.Coin, text []byte) {
		if c.Point != point {
			return
		}
		for n := range text {
			_, _, e1 := get(t, text[:n:n], 0)
			_, _, e2 := get(t, text[:n], 0)
			_, _, e3 := get(t, join(steps(70, 3), text[:n]), 3)
			_, e4 := read(t, text[:n])
			if e1 != api.ErrShort || e2 != api.ErrShort || e3 != api.ErrShort || e4 != api.ErrShort {
				t.Errorf("Get(%x): %d, %d, %d, %d", text[:n], e1, e2, e3, e4)
			}
		}
	})
	if _, e := read(t, nil); e != api.ErrShort {
		t.Errorf("Read(none): %d", e)
	}
}

// rowFaults are rows that are none, with the error that each is; of several faults the first from the left.
func rowFaults() []struct {
	b []byte
	e api.Errno
} {
	return []struct {
		b []byte
		e api.Errno
	}{
		{nil, api.ErrShort},
		{[]byte{1}, api.ErrShort},
		{[]byte{100}, api.ErrShort},
		{join([]byte{100}, steps(0, 99)), api.ErrShort},
		{[]byte{253}, api.ErrShort},
		{[]byte{253, 0}, api.ErrShort},
		{[]byte{253, 255}, api.ErrShort},
		{[]byte{254, 255, 255, 255}, api.ErrShort},
		{[]byte{255, 255, 255, 255, 255, 255, 255, 255}, api.ErrShort},

		{[]byte{253, 0, 0}, api.ErrForm},
		{join([]byte{253, 2, 0}, steps(0, 2)), api.ErrForm},
		{join([]byte{253, 100, 0}, steps(0, 100)), api.ErrForm},
		{[]byte{253, 101, 0}, api.ErrForm},
		{[]byte{253, 252, 0}, api.ErrForm},
		{[]byte{254, 2, 0, 0, 0, 7, 8}, api.ErrForm},
		{[]byte{254, 255, 255, 0, 0}, api.ErrForm},
		{[]byte{255, 2, 0, 0, 0, 0, 0, 0, 0, 7, 8}, api.ErrForm},
		{[]byte{255, 255, 255, 255, 255, 0, 0, 0, 0}, api.ErrForm},

		{join([]byte{101}, steps(0, 101)), api.ErrLimit},
		{[]byte{101}, api.ErrLimit},
		{[]byte{252}, api.ErrLimit},
		{join([]byte{253, 253, 0}, steps(0, 253)), api.ErrLimit},
		{[]byte{253, 253, 0}, api.ErrLimit},
		{[]byte{254, 0, 0, 1, 0}, api.ErrLimit},
		{[]byte{255, 0, 0, 0, 0, 1, 0, 0, 0}, api.ErrLimit},
		{[]byte{255, 0, 0, 0, 0, 0, 0, 0, 128}, api.ErrLimit},
		{bytes.Repeat([]byte{255}, 9), api.ErrLimit},
	}
}

func TestGetOfLocksThatMayNotBe(t *testing.T) {
	for _, c := range rowFaults() {
		b := join(five, c.b)
		if _, _, e := getOut(t, b, 0); e != c.e {
			t.Errorf("GetOut(%x, 0): %d, not %d", b, e, c.e)
		}
		if _, _, e := getOut(t, join([]byte{9}, b), 1); e != c.e {
			t.Errorf("GetOut of %x behind a byte: %d, not %d", b, e, c.e)
		}
		for _, base := range []byte{0, 1} {
			b := join(pointBytes, five, []byte{base}, c.b)
			if _, _, e := get(t, b, 0); e != c.e {
				t.Errorf("Get(%x, 0): %d, not %d", b, e, c.e)
			}
			if _, e := read(t, b); e != c.e {
				t.Errorf("Read(%x): %d, not %d", b, e, c.e)
			}
		}
	}
}

// A Value that is too great is told ahead of all that stands, or is missing, behind it.
func TestGetOfValuesThatMayNotBe(t *testing.T) {
	for _, value := range [][]byte{aboveMost, allSet, {0, 0, 0, 0, 0, 0, 8, 0}, {0, 0, 0, 0, 0, 0, 0, 1}, {0, 0, 0, 0, 0, 0, 0, 128}, {0, 0, 0, 0, 1, 0, 4, 0}} {
		for _, behind := range [][]byte{nil, {0}, {1, 0}, {2, 0}, {101}, {0, 101}, {253, 0, 0}, {0, 1}} {
			b := join(value, behind)
			if _, _, e := getOut(t, b, 0); e != api.ErrForm {
				t.Errorf("GetOut(%x, 0): %d", b, e)
			}
			b = join(pointBytes, b)
			if _, _, e := get(t, b, 0); e != api.ErrForm {
				t.Errorf("Get(%x, 0): %d", b, e)
			}
			if _, e := read(t, b); e != api.ErrForm {
				t.Errorf("Read(%x): %d", b, e)
			}
		}
	}
}

// And so is a byte of Base that is neither 0 nor 1.
func TestGetOfBasesThatMayNotBe(t *testing.T) {
	for base := 2; base < 256; base++ {
		for _, behind := range [][]byte{nil, {0}, {101}, {253}, {2, 7}, {0, 9}} {
			b := join(pointBytes, most, []byte{byte(base)}, behind)
			if _, _, e := get(t, b, 0); e != api.ErrForm {
				t.Errorf("Get(%x, 0): %d", b, e)
			}
			if _, e := read(t, b); e != api.ErrForm {
				t.Errorf("Read(%x): %d", b, e)
			}
		}
	}
}

func TestReadOfBytesThatAreLeft(t *testing.T) {
	each(func(api.Out, []byte) {}, func(c api.Coin, text []byte) {
		for _, behind := range [][]byte{{0}, {1}, {255}, text} {
			if _, e := read(t, join(text, behind)); e != api.ErrForm {
				t.Errorf("Read(%x and %x): %d", text, behind, e)
			}
		}
		// Room behind the end is none of the bytes.
		if got, e := read(t, join(text, []byte{0, 0})[:len(text)]); !sameCoin(got, c) || e != api.OK {
			t.Errorf("Read(%x) = %v, %d", text, got, e)
		}
	})
}

// P6.4

func TestWhatIsPutIsGot(t *testing.T) {
	for _, p := range points() {
		b := coin.PutPoint(p)
		if got, next, e := getPoint(t, b, 0); got != p || next != len(b) || e != api.OK {
			t.Errorf("GetPoint(%x, 0) = %v, %d, %d", b, got, next, e)
		}
	}
	each(func(o api.Out, _ []byte) {
		b, _ := coin.PutOut(o)
		if got, next, e := getOut(t, b, 0); !sameOut(got, o) || next != len(b) || e != api.OK {
			t.Errorf("GetOut(%x, 0) = %v, %d, %d", b, got, next, e)
		}
	}, func(c api.Coin, _ []byte) {
		b, _ := coin.Put(c)
		if got, e := read(t, b); !sameCoin(got, c) || !coin.Same(got, c) || e != api.OK {
			t.Errorf("Read(%x) = %v, %d", b, got, e)
		}
	})
}

// Of bytes of which one is changed: what is got of them is put as just these.
func TestWhatIsGotIsPut(t *testing.T) {
	text := join(pointBytes, five, []byte{1}, row(steps(9, 5)), steps(30, 6))
	got := 0
	for i := range text {
		for x := range 256 {
			b := bytes.Clone(text)
			b[i] = byte(x)
			if p, next, e := getPoint(t, b, 0); e != api.OK || !bytes.Equal(coin.PutPoint(p), b[:next]) {
				t.Errorf("GetPoint(%x, 0) = %v, %d, %d", b, p, next, e)
			}
			if c, next, e := get(t, b, 0); e == api.OK {
				got++
				if again, e := coin.Put(c); e != api.OK || !bytes.Equal(again, b[:next]) {
					t.Errorf("Get(%x, 0) = %v, and that is put as %x, %d", b, c, again, e)
				}
			}
			if o, next, e := getOut(t, b[38:], 0); e == api.OK {
				if again, e := coin.PutOut(o); e != api.OK || !bytes.Equal(again, b[38:38+next]) {
					t.Errorf("GetOut(%x, 0) = %v, and that is put as %x, %d", b[38:], o, again, e)
				}
			}
		}
	}
	if got < 10000 {
		t.Errorf("just %d of the changed bytes are a coin's", got)
	}
}

// rising are points, each of which is less than all behind it.
func rising() []api.Point {
	var ps []api.Point
	for _, tx := range []api.Hash{{}, {31: 1}, {31: 128}, {31: 255}, {30: 1}, {15: 1, 16: 255}, {15: 2}, {0: 1}, {0: 1, 31: 1}, {0: 2}, {0: 127, 1: 255}, {0: 128}, api.Hash(bytes.Repeat([]byte{255}, 32))} {
		for _, n := range []uint16{0, 1, 2, 255, 256, 257, 512, 1 << 15, 65535} {
			for _, height := range []uint32{0, 1, 2, 255, 256, 257, 65535, 65536, 1 << 24, 1<<31 - 1, 1 << 31, math.MaxUint32} {
				ps = append(ps, api.Point{Tx: tx, N: n, Height: height})
			}
		}
	}
	return ps
}

func TestLess(t *testing.T) {
	ps := rising()
	for i, a := range ps {
		for j, b := range ps {
			if less := coin.Less(a, b); less != (i < j) {
				t.Fatalf("Less(%v, %v) = %t", a, b, less)
			}
		}
	}
	// Each byte of Tx counts, the first one most.
	for i := range 32 {
		var a, b api.Point
		b.Tx[i] = 1
		for k := i + 1; k < 32; k++ {
			a.Tx[k] = 255
		}
		a.N, a.Height = 65535, math.MaxUint32
		if !coin.Less(a, b) || coin.Less(b, a) {
			t.Errorf("%v is not less than %v", a, b)
		}
	}
}

func TestSame(t *testing.T) {
	c := api.Coin{Point: point, Value: 5, Base: true, Lock: []byte{1, 2, 3}}
	like := c
	like.Lock = slices.Clone(c.Lock)
	if !coin.Same(c, c) || !coin.Same(c, like) || !coin.Same(api.Coin{}, api.Coin{}) {
		t.Error("a coin is not the same as itself")
	}
	if !coin.Same(api.Coin{Value: 1}, api.Coin{Value: 1, Lock: []byte{}}) || !coin.Same(api.Coin{Lock: []byte{}}, api.Coin{}) {
		t.Error("no lock and a lock without bytes are not the same")
	}
	for i, change := range []func(*api.Coin){
		func(c *api.Coin) { c.Point.Tx[0]++ },
		func(c *api.Coin) { c.Point.Tx[31]++ },
		func(c *api.Coin) { c.Point.N++ },
		func(c *api.Coin) { c.Point.Height++ },
		func(c *api.Coin) { c.Value++ },
		func(c *api.Coin) { c.Value += 1 << 40 },
		func(c *api.Coin) { c.Base = false },
		func(c *api.Coin) { c.Lock = nil },
		func(c *api.Coin) { c.Lock = []byte{1, 2} },
		func(c *api.Coin) { c.Lock = []byte{1, 2, 4} },
		func(c *api.Coin) { c.Lock = []byte{0, 2, 3} },
		func(c *api.Coin) { c.Lock = []byte{1, 2, 3, 0} },
		// It counts for coins that may not be, too.
		func(c *api.Coin) { c.Value = math.MaxUint64 },
		func(c *api.Coin) { c.Lock = make([]byte, 200) },
	} {
		other := c
		change(&other)
		if coin.Same(c, other) || coin.Same(other, c) || !coin.Same(other, other) {
			t.Errorf("%d: %v and %v", i, c, other)
		}
	}
}

// The rules that hold everywhere: what is handed in stays as it is, what is answered is new memory.

// overwrite changes all that an answer has, its room too.
func overwrite(b []byte) {
	b = b[:cap(b)]
	for i := range b {
		b[i] ^= 255
	}
}

func TestArgumentsStay(t *testing.T) {
	room := join([]byte{80}, steps(9, 60), steps(100, 200))
	was := bytes.Clone(room)
	lock := room[1:61]
	o := api.Out{Value: 5, Lock: lock}
	c := api.Coin{Point: point, Value: 5, Lock: lock}
	outBytes, _ := coin.PutOut(o)
	coinBytes, _ := coin.Put(c)
	coin.Same(c, c)
	overwrite(outBytes)
	overwrite(coinBytes)
	if !bytes.Equal(room, was) || len(c.Lock) != 60 || c.Point != point {
		t.Error("what was put has changed")
	}

	whole := join([]byte{90, 91}, pointBytes, five, []byte{1}, row(lock), steps(0, 20))
	was = bytes.Clone(whole)
	in := whole[2 : len(whole)-20]
	coin.GetPoint(in, 0)
	gotOut, _, _ := coin.GetOut(in[39:], 0)
	gotCoin, _, _ := coin.Get(in, 0)
	readCoin, _ := coin.Read(in)
	for _, b := range [][]byte{gotOut.Lock, gotCoin.Lock, readCoin.Lock} {
		overwrite(b)
		if !bytes.Equal(whole, was) {
			t.Fatal("what is got shares memory with what was handed in")
		}
	}
}

func TestAnswersAreNew(t *testing.T) {
	lock := steps(9, 60)
	c := api.Coin{Point: point, Value: 5, Lock: lock}
	o := api.Out{Value: 5, Lock: lock}
	want, _ := coin.Put(c)
	wantOut, _ := coin.PutOut(o)
	wantPoint := coin.PutPoint(point)
	want, wantOut, wantPoint = bytes.Clone(want), bytes.Clone(wantOut), bytes.Clone(wantPoint)

	first, _ := coin.Put(c)
	second, _ := coin.Put(c)
	overwrite(first)
	firstOut, _ := coin.PutOut(o)
	secondOut, _ := coin.PutOut(o)
	overwrite(firstOut)
	firstPoint, secondPoint := coin.PutPoint(point), coin.PutPoint(point)
	overwrite(firstPoint)
	overwrite(lock)
	if !bytes.Equal(second, want) || !bytes.Equal(secondOut, wantOut) || !bytes.Equal(secondPoint, wantPoint) {
		t.Error("two answers share memory, or one does with what was handed in")
	}

	b := bytes.Clone(want)
	one, _ := coin.Read(b)
	other, _, _ := coin.Get(b, 0)
	out, _, _ := coin.GetOut(wantOut, 0)
	overwrite(one.Lock)
	overwrite(b)
	overwrite(wantOut)
	if !bytes.Equal(other.Lock, steps(9, 60)) || !bytes.Equal(out.Lock, steps(9, 60)) {
		t.Error("what is got shares memory")
	}
}
