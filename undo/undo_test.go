package undo_test

import (
	"bytes"
	"math"
	"math/rand"
	"slices"
	"testing"

	"moneyer/api"
	"moneyer/coin"
	"moneyer/ends"
	"moneyer/table"
	"moneyer/undo"
)

func join(parts ...[]byte) []byte { return bytes.Join(parts, nil) }

func point(n int) api.Point {
	return api.Point{Tx: api.Hash{byte(n >> 8), byte(n)}, N: uint16(n & 7), Height: 5}
}

func of(n int) api.Coin {
	return api.Coin{Point: point(n), Value: uint64(n) + 1, Base: n%3 == 0, Lock: bytes.Repeat([]byte{byte(n)}, n%4)}
}

func coins(from, n int) []api.Coin {
	var l []api.Coin
	for i := range n {
		l = append(l, of(from+i))
	}
	return l
}

func points(from, n int) []api.Point {
	var l []api.Point
	for i := range n {
		l = append(l, point(from+i))
	}
	return l
}

func some() (api.Undo, []byte) {
	b := []byte{3}
	for _, c := range coins(1, 3) {
		text, _ := coin.Put(c)
		b = join(b, text)
	}
	b = append(b, 2)
	for _, p := range points(9, 2) {
		b = join(b, coin.PutPoint(p))
	}
	return api.Undo{Spent: coins(1, 3), Made: points(9, 2)}, b
}

func isNone(u api.Undo) bool { return len(u.Spent) == 0 && len(u.Made) == 0 }

func alike(a, b api.Undo) bool {
	return slices.EqualFunc(a.Spent, b.Spent, coin.Same) && slices.Equal(a.Made, b.Made)
}

func read(t *testing.T, b []byte) (api.Undo, api.Errno) {
	t.Helper()
	u, e := undo.Read(b)
	if e != api.OK && !isNone(u) {
		t.Errorf("Read = %v, %d", u, e)
	}
	return u, e
}

func put(t *testing.T, u api.Undo) ([]byte, api.Errno) {
	t.Helper()
	b, e := undo.Put(u)
	if e != api.OK && len(b) != 0 {
		t.Errorf("Put = %x, %d", b, e)
	}
	return b, e
}

func do(t *testing.T, x *table.Table, spend []api.Point, make []api.Coin) (api.Undo, api.Errno) {
	t.Helper()
	u, e := undo.Do(x, spend, make)
	if e != api.OK && !isNone(u) {
		t.Errorf("Do = %v, %d", u, e)
	}
	return u, e
}

func ok(t *testing.T, what string, got, want api.Errno) {
	t.Helper()
	if got != want {
		t.Errorf("%s: %d, not %d", what, got, want)
	}
}

func tableOf(t *testing.T, l []api.Coin) *table.Table {
	t.Helper()
	x := table.New()
	for _, c := range l {
		ok(t, "Put", x.Put(c), api.OK)
	}
	return x
}

// The chapter's examples.
func TestExamples(t *testing.T) {
	if b, e := put(t, api.Undo{}); !bytes.Equal(b, []byte{0, 0}) || e != api.OK {
		t.Errorf("Put(none) = %x, %d", b, e)
	}
	_, e := read(t, []byte{0})
	ok(t, "Read(00)", e, api.ErrShort)
	x := table.New()
	u, e := do(t, x, nil, coins(1, 1))
	if len(u.Made) != 1 || e != api.OK {
		t.Errorf("Do = %v, %d", u, e)
	}
	ok(t, "Back", undo.Back(x, u), api.OK)
	ok(t, "Back again", undo.Back(x, u), api.ErrNone)
	_, e = do(t, table.New(), points(1, 1), nil)
	ok(t, "Do", e, api.ErrNone)
}

// P25.1

func TestPutAndRead(t *testing.T) {
	u, want := some()
	if b, e := put(t, u); !bytes.Equal(b, want) || e != api.OK {
		t.Errorf("Put = %x, %d", b, e)
	}
	for i, u := range []api.Undo{u, {}, {Spent: coins(0, 256)}, {Made: points(0, 256)}, {Spent: coins(0, 256), Made: points(0, 256)}, {Made: []api.Point{point(1), point(1)}}, {Spent: []api.Coin{{Value: api.MaxMoney, Lock: make([]byte, 100)}}}} {
		b, e := put(t, u)
		ok(t, "Put", e, api.OK)
		if got, e := read(t, b); !alike(got, u) || !undo.Same(got, u) || e != api.OK {
			t.Errorf("%d: Read = %v, %d", i, got, e)
		}
		_, e = read(t, append(b, 0))
		ok(t, "Read with one more", e, api.ErrForm)
	}
	for i, u := range []api.Undo{{Spent: coins(0, 257)}, {Made: points(0, 257)}, {Spent: make([]api.Coin, 5000)}, {Spent: []api.Coin{{Value: api.MaxMoney + 1}}}, {Spent: append(coins(0, 3), api.Coin{Lock: make([]byte, 101)})}} {
		if _, e := put(t, u); e != api.ErrArg {
			t.Errorf("%d: Put: %d", i, e)
		}
	}
	for n := range want {
		_, e := read(t, want[:n:n])
		ok(t, "Read of less", e, api.ErrShort)
		_, e = read(t, want[:n])
		ok(t, "Read of less, with room behind", e, api.ErrShort)
	}
	text, _ := coin.Put(of(1))
	spoilt, long := bytes.Clone(text), bytes.Clone(text)
	spoilt[46], long[47] = 2, 101
	for i, c := range []struct {
		b []byte
		e api.Errno
	}{
		{[]byte{253, 1, 1}, api.ErrLimit}, {bytes.Repeat([]byte{255}, 9), api.ErrLimit}, {[]byte{253, 252, 0}, api.ErrForm}, {[]byte{253, 0, 1}, api.ErrShort},
		{[]byte{0, 253, 1, 1}, api.ErrLimit}, {join([]byte{0}, bytes.Repeat([]byte{255}, 9)), api.ErrLimit}, {[]byte{0, 253, 0, 1}, api.ErrShort}, {[]byte{0, 254, 0, 1, 0, 0}, api.ErrForm},
		{join([]byte{2}, text, spoilt), api.ErrForm}, {join([]byte{1}, long), api.ErrLimit}, {join([]byte{2}, long), api.ErrLimit},
		{join([]byte{1}, text, []byte{253, 1, 1}), api.ErrLimit}, {join([]byte{1}, text, []byte{1}, make([]byte, 37)), api.ErrShort}, {join([]byte{1}, text, []byte{1}, make([]byte, 39)), api.ErrForm},
	} {
		if _, e := read(t, c.b); e != c.e {
			t.Errorf("%d: Read: %d, not %d", i, e, c.e)
		}
	}
	// What is read is put as the same bytes.
	for i := range want {
		for x := range 256 {
			b := bytes.Clone(want)
			b[i] = byte(x)
			if u, e := read(t, b); e == api.OK {
				if again, e := put(t, u); e != api.OK || !bytes.Equal(again, b) {
					t.Errorf("Read(%x), put again: %x, %d", b, again, e)
				}
			}
		}
	}
}

// P25.2 and P25.3

func TestDoAndBack(t *testing.T) {
	r := rand.New(rand.NewSource(1))
	next := 0
	x := table.New()
	var now []api.Coin
	var done []api.Undo
	var was [][]api.Coin
	for range 400 {
		if len(done) > 0 && r.Intn(3) == 0 {
			last := len(done) - 1
			ok(t, "Back", undo.Back(x, done[last]), api.OK)
			now, done, was = was[last], done[:last], was[:last]
		} else {
			was = append(was, slices.Clone(now))
			var spend []api.Point
			var spent []api.Coin
			for range r.Intn(min(4, len(now)+1)) {
				k := r.Intn(len(now))
				spend, spent = append(spend, now[k].Point), append(spent, now[k])
				now = slices.Delete(slices.Clone(now), k, k+1)
			}
			make := coins(next, r.Intn(6))
			next += len(make)
			r.Shuffle(len(make), func(i, k int) { make[i], make[k] = make[k], make[i] })
			var made []api.Point
			for _, c := range make {
				made = append(made, c.Point)
			}
			now = append(slices.Clone(now), make...)
			u, e := do(t, x, spend, make)
			if !alike(u, api.Undo{Spent: spent, Made: made}) || e != api.OK {
				t.Fatalf("Do(%v, %v) = %v, %d", spend, make, u, e)
			}
			done = append(done, u)
		}
		if want := tableOf(t, now); !slices.EqualFunc(x.All(), want.All(), coin.Same) {
			t.Fatalf("All = %v", x.All())
		}
	}
}

// Spent ones are taken ahead of what is made; and put, the last one first, behind it.
func TestOrder(t *testing.T) {
	x := tableOf(t, coins(0, 3))
	other := of(1)
	other.Value = 77
	u, e := do(t, x, points(1, 1), []api.Coin{other})
	if !alike(u, api.Undo{Spent: coins(1, 1), Made: points(1, 1)}) || e != api.OK {
		t.Errorf("Do = %v, %d", u, e)
	}
	ok(t, "Back", undo.Back(x, u), api.OK)
	if c, _ := x.Get(point(1)); !coin.Same(c, of(1)) {
		t.Errorf("Get = %v", c)
	}
	// The first page tells in which order two coins were put upon eight: the first one split it.
	low, high := of(1), of(30)
	for _, c := range []struct {
		l    []api.Coin
		many int
	}{{[]api.Coin{low, high}, 4}, {[]api.Coin{high, low}, 5}} {
		x := tableOf(t, coins(10, 8))
		do(t, x, nil, c.l)
		if page, _ := x.Page(0); len(page) != c.many {
			t.Errorf("Do(%v): the first page has %d", c.l, len(page))
		}
		x = tableOf(t, coins(10, 8))
		ok(t, "Back", undo.Back(x, api.Undo{Spent: c.l}), api.OK)
		if page, _ := x.Page(0); len(page) != 9-c.many {
			t.Errorf("Back(%v): the first page has %d", c.l, len(page))
		}
	}
	// Made ones are taken ahead of it.
	x = tableOf(t, coins(10, 9))
	ok(t, "Back", undo.Back(x, api.Undo{Made: points(18, 1), Spent: []api.Coin{high}}), api.OK)
	if page, _ := x.Page(1); len(page) != 5 || !coin.Same(page[4], high) {
		t.Errorf("Back: the second page is %v", page)
	}
}

func TestErrors(t *testing.T) {
	start := func() *table.Table {
		x := tableOf(t, coins(0, 30))
		// Pages that no order of puts alone makes.
		x.Take(point(3))
		x.Take(point(12))
		return x
	}
	long := api.Coin{Point: point(500), Lock: make([]byte, 101)}
	for i, c := range []struct {
		spend []api.Point
		make  []api.Coin
		e     api.Errno
	}{
		{points(30, 1), nil, api.ErrNone}, {points(1, 3), nil, api.ErrNone}, {[]api.Point{point(1), point(1)}, coins(40, 1), api.ErrNone}, {points(40, 1), coins(40, 1), api.ErrNone},
		{points(4, 3), coins(7, 1), api.ErrTwice}, {points(4, 5), append(coins(40, 3), coins(41, 1)...), api.ErrTwice}, {points(4, 5), append(coins(40, 9), of(0)), api.ErrTwice},
		{points(4, 5), []api.Coin{long}, api.ErrArg}, {points(4, 5), append(coins(40, 12), long), api.ErrArg}, {nil, []api.Coin{{Value: math.MaxUint64}}, api.ErrArg},
		// What is met first.
		{points(30, 1), []api.Coin{long}, api.ErrNone}, {nil, []api.Coin{of(0), long}, api.ErrTwice}, {nil, []api.Coin{long, of(0)}, api.ErrArg},
		{nil, coins(1000, 1973), api.ErrLimit},
	} {
		x := start()
		was := x.Bytes()
		_, e := do(t, x, c.spend, c.make)
		if e != c.e || !bytes.Equal(x.Bytes(), was) {
			t.Errorf("%d: Do: %d, not %d; %d coins", i, e, c.e, x.Len())
		}
		// It goes on as if nothing had been.
		u, e := do(t, x, points(4, 2), coins(40, 5))
		ok(t, "Do", e, api.OK)
		y := start()
		undo.Do(y, points(4, 2), coins(40, 5))
		if !bytes.Equal(x.Bytes(), y.Bytes()) || len(u.Spent) != 2 {
			t.Errorf("%d: behind it other pages", i)
		}
	}
	for i, c := range []struct {
		u api.Undo
		e api.Errno
	}{
		{api.Undo{Made: points(30, 1)}, api.ErrNone}, {api.Undo{Made: points(10, 4)}, api.ErrNone}, {api.Undo{Made: []api.Point{point(1), point(1)}}, api.ErrNone},
		{api.Undo{Spent: coins(0, 1)}, api.ErrTwice}, {api.Undo{Made: points(4, 5), Spent: append(coins(40, 9), of(40))}, api.ErrTwice}, {api.Undo{Made: points(4, 5), Spent: append([]api.Coin{of(1)}, coins(40, 9)...)}, api.ErrTwice},
		{api.Undo{Made: points(4, 5), Spent: append(coins(40, 9), long)}, api.ErrArg}, {api.Undo{Made: points(30, 1), Spent: []api.Coin{long}}, api.ErrNone},
		{api.Undo{Spent: []api.Coin{of(0), long}}, api.ErrArg}, {api.Undo{Spent: []api.Coin{long, of(0)}}, api.ErrTwice},
		{api.Undo{Spent: coins(1000, 1973)}, api.ErrLimit},
	} {
		x := start()
		was := x.Bytes()
		if e := undo.Back(x, c.u); e != c.e || !bytes.Equal(x.Bytes(), was) {
			t.Errorf("%d: Back: %d, not %d; %d coins", i, e, c.e, x.Len())
		}
	}
	x := start()
	if _, e := do(t, x, nil, coins(1000, 1972)); e != api.OK || x.Len() != 2000 {
		t.Errorf("Do up to the most: %d, %d", e, x.Len())
	}
}

// Rule 5: a nil pointer, and a zero object.
func TestNil(t *testing.T) {
	u, _ := some()
	for _, x := range []*table.Table{nil, {}} {
		_, e1 := do(t, x, nil, nil)
		_, e2 := do(t, x, points(1, 1), coins(1, 1))
		_, e3 := do(t, x, nil, []api.Coin{{Value: math.MaxUint64}})
		for _, e := range []api.Errno{e1, e2, e3, undo.Back(x, api.Undo{}), undo.Back(x, u)} {
			ok(t, "of nil", e, api.ErrNil)
		}
	}
}

func TestSame(t *testing.T) {
	a, _ := some()
	b, _ := some()
	if !undo.Same(a, b) || !undo.Same(api.Undo{}, api.Undo{Spent: []api.Coin{}, Made: []api.Point{}}) {
		t.Error("an undo is not the same as itself")
	}
	for i, change := range []func(*api.Undo){
		func(u *api.Undo) { u.Spent = u.Spent[1:] },
		func(u *api.Undo) { u.Spent = nil },
		func(u *api.Undo) { u.Spent[2].Lock = nil },
		func(u *api.Undo) { u.Spent[0].Value++ },
		func(u *api.Undo) { u.Spent[0], u.Spent[1] = u.Spent[1], u.Spent[0] },
		func(u *api.Undo) { u.Made = u.Made[:1] },
		func(u *api.Undo) { u.Made = append(u.Made, point(1)) },
		func(u *api.Undo) { u.Made[1].Height++ },
	} {
		b, _ := some()
		change(&b)
		if undo.Same(a, b) || undo.Same(b, a) {
			t.Errorf("%d: is the same", i)
		}
	}
}

// The rules that hold everywhere: what is handed in stays as it is, what is answered is new memory.
func TestMemory(t *testing.T) {
	spoil := func(u api.Undo) {
		for i, c := range u.Spent[:cap(u.Spent)] {
			for k := range c.Lock[:cap(c.Lock)] {
				c.Lock[:cap(c.Lock)][k] ^= 255
			}
			u.Spent[:cap(u.Spent)][i] = api.Coin{}
		}
		for i := range u.Made[:cap(u.Made)] {
			u.Made[:cap(u.Made)][i] = api.Point{}
		}
	}
	_, text := some()
	room := join(text, ends.Count(300))
	was := bytes.Clone(room)
	a, _ := undo.Read(room[:len(text)])
	b, _ := undo.Read(room[:len(text)])
	spoil(a)
	x, _ := undo.Put(b)
	for i := range x[:cap(x)] {
		x[:cap(x)][i] ^= 255
	}
	u, _ := some()
	if !bytes.Equal(room, was) || !alike(b, u) {
		t.Error("what is read shares memory")
	}
	spend, make := points(1, 5), coins(40, 5)
	table1 := tableOf(t, coins(0, 12))
	first, _ := undo.Do(table1, spend[:3], make[:3])
	want := table1.Bytes()
	wasFirst, _ := undo.Put(first)
	if !slices.Equal(spend, points(1, 5)) || !slices.EqualFunc(make, coins(40, 5), coin.Same) {
		t.Error("what was handed in has changed")
	}
	spoil(api.Undo{Spent: make})
	if !bytes.Equal(table1.Bytes(), want) {
		t.Error("the table shares memory with what was made")
	}
	table2 := table1.Copy()
	undo.Back(table2, first)
	if again, _ := undo.Put(first); !bytes.Equal(again, wasFirst) {
		t.Error("what was handed in has changed")
	}
	wantBack := table2.Bytes()
	spoil(first)
	if !bytes.Equal(table1.Bytes(), want) || !bytes.Equal(table2.Bytes(), wantBack) {
		t.Error("a table shares memory with an undo")
	}
}
