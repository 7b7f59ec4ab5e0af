package table_test

import (
	"bytes"
	"math"
	"math/rand"
	"slices"
	"testing"

	"moneyer/api"
	"moneyer/coin"
	"moneyer/ends"
	"moneyer/table"
)

func join(parts ...[]byte) []byte { return bytes.Join(parts, nil) }

// point answers points that rise with n.
func point(n int) api.Point {
	return api.Point{Tx: api.Hash{byte(n >> 9)}, N: uint16(n >> 2 & 127), Height: uint32(n & 3)}
}

func of(n int) api.Coin {
	return api.Coin{Point: point(n), Value: uint64(n) + 1, Base: n%3 == 0, Lock: bytes.Repeat([]byte{byte(n)}, n%4)}
}

func bytesOf(c api.Coin) []byte {
	b, _ := coin.Put(c)
	return b
}

// textOf says what the bytes of pages are.
func textOf(pages [][]api.Coin) []byte {
	b := ends.Count(uint64(len(pages)))
	for _, page := range pages {
		b = join(b, ends.Count(uint64(len(page))))
		for _, c := range page {
			b = join(b, bytesOf(c))
		}
	}
	return b
}

func sameCoins(a, b []api.Coin) bool { return slices.EqualFunc(a, b, coin.Same) }

func noCoin(c api.Coin) bool { return coin.Same(c, api.Coin{}) }

func ok(t *testing.T, what string, got, want api.Errno) {
	t.Helper()
	if got != want {
		t.Errorf("%s: %d, not %d", what, got, want)
	}
}

func read(t *testing.T, b []byte) (*table.Table, api.Errno) {
	t.Helper()
	x, e := table.Read(b)
	if (x != nil) != (e == api.OK) {
		t.Errorf("Read: %d", e)
	}
	return x, e
}

func take(t *testing.T, x *table.Table, p api.Point) (api.Coin, api.Errno) {
	t.Helper()
	c, e := x.Take(p)
	if e != api.OK && !noCoin(c) {
		t.Errorf("Take = %v, %d", c, e)
	}
	return c, e
}

func get(t *testing.T, x *table.Table, p api.Point) (api.Coin, api.Errno) {
	t.Helper()
	c, e := x.Get(p)
	if e != api.OK && !noCoin(c) {
		t.Errorf("Get = %v, %d", c, e)
	}
	return c, e
}

// hold holds a table against pages.
func hold(t *testing.T, x *table.Table, pages [][]api.Coin) {
	t.Helper()
	all := slices.Concat(pages...)
	sum := uint64(0)
	for _, c := range all {
		sum += c.Value
	}
	if x.Len() != len(all) || x.Sum() != sum || !sameCoins(x.All(), all) {
		t.Fatalf("Len = %d, Sum = %d, All = %v", x.Len(), x.Sum(), x.All())
	}
	for n := -1; n <= len(pages)+1; n++ {
		page, e := x.Page(n)
		if n < 0 || n >= len(pages) {
			if len(page) != 0 || e != api.ErrNone {
				t.Fatalf("Page(%d) = %v, %d", n, page, e)
			}
		} else if !sameCoins(page, pages[n]) || e != api.OK {
			t.Fatalf("Page(%d) = %v, %d, not %v", n, page, e, pages[n])
		}
	}
	if b := x.Bytes(); !bytes.Equal(b, textOf(pages)) {
		t.Fatalf("Bytes = %x", b)
	}
}

// The chapter's examples.
func TestExamples(t *testing.T) {
	x := table.New()
	if b := x.Bytes(); !bytes.Equal(b, []byte{0}) {
		t.Errorf("New: Bytes = %x", b)
	}
	c := api.Coin{Value: 1}
	ok(t, "Put", x.Put(c), api.OK)
	ok(t, "Put again", x.Put(c), api.ErrTwice)
	if got, e := take(t, x, c.Point); !coin.Same(got, c) || e != api.OK {
		t.Errorf("Take = %v, %d", got, e)
	}
	_, e := take(t, x, c.Point)
	ok(t, "Take again", e, api.ErrNone)
	_, e = read(t, []byte{1, 0})
	ok(t, "Read(01 00)", e, api.ErrForm)
	for n := range 9 {
		ok(t, "Put", x.Put(of(n)), api.OK)
	}
	for n, want := range []int{4, 5} {
		if page, e := x.Page(n); len(page) != want || e != api.OK {
			t.Errorf("Page(%d): %d, %d", n, len(page), e)
		}
	}
}

// A model is pages, as the words have them.
type model [][]api.Coin

func (m model) page(p api.Point) int {
	last := 0
	for n, page := range m {
		if !coin.Less(p, page[0].Point) {
			last = n
		}
	}
	return last
}

func (m model) put(c api.Coin) model {
	if len(m) == 0 {
		return model{{c}}
	}
	n := m.page(c.Point)
	page := append(slices.Clone(m[n]), c)
	slices.SortFunc(page, func(a, b api.Coin) int {
		if coin.Less(a.Point, b.Point) {
			return -1
		}
		return 1
	})
	l := slices.Clone(m)
	if len(page) == 9 {
		return slices.Concat(l[:n], model{page[:4], page[4:]}, l[n+1:])
	}
	l[n] = page
	return l
}

func (m model) take(p api.Point) model {
	n := m.page(p)
	l := slices.Clone(m)
	l[n] = slices.DeleteFunc(slices.Clone(m[n]), func(c api.Coin) bool { return c.Point == p })
	if len(l[n]) == 0 {
		l = slices.Delete(l, n, n+1)
	}
	return l
}

// P24.1, P24.3 and P24.4, held against the model.
func TestAgainstTheModel(t *testing.T) {
	r := rand.New(rand.NewSource(1))
	for round := range 12 {
		x, m := table.New(), model{}
		is := map[int]bool{}
		most := []int{5, 12, 40, 300}[round%4]
		for range 500 {
			n := r.Intn(most)
			want, e := api.ErrNone, api.OK
			if is[n] {
				want = api.OK
			}
			if got, e := get(t, x, point(n)); e != want || e == api.OK && !coin.Same(got, of(n)) {
				t.Fatalf("Get = %v, %d", got, e)
			}
			if r.Intn(5) < 2 {
				var got api.Coin
				got, e = take(t, x, point(n))
				ok(t, "Take", e, want)
				if is[n] {
					m = m.take(point(n))
					if !coin.Same(got, of(n)) {
						t.Fatalf("Take = %v", got)
					}
				}
				is[n] = false
			} else if is[n] {
				other := of(n)
				other.Value, other.Lock = 999, []byte{9, 9}
				ok(t, "Put", x.Put(other), api.ErrTwice)
			} else {
				ok(t, "Put", x.Put(of(n)), api.OK)
				m = m.put(of(n))
				is[n] = true
			}
			hold(t, x, m)
			again, e := read(t, x.Bytes())
			if e != api.OK {
				t.Fatalf("Read: %d", e)
			}
			hold(t, again, m)
		}
	}
}

func TestPutOfWhatMayNotBe(t *testing.T) {
	x := table.New()
	x.Put(of(1))
	for i, c := range []api.Coin{{Value: api.MaxMoney + 1}, {Lock: make([]byte, 101)}, {Point: point(1), Value: math.MaxUint64}, {Point: point(1), Lock: make([]byte, 300)}} {
		ok(t, "Put", x.Put(c), api.ErrArg)
		if x.Len() != 1 {
			t.Errorf("%d: Len = %d", i, x.Len())
		}
	}
	ok(t, "Put", x.Put(api.Coin{Point: point(2), Value: api.MaxMoney, Lock: make([]byte, 100)}), api.OK)
}

func TestMost(t *testing.T) {
	x := table.New()
	for i := range 2000 {
		ok(t, "Put", x.Put(of(i*7%2000)), api.OK)
	}
	was := x.Bytes()
	ok(t, "Put of one more", x.Put(of(2000)), api.ErrLimit)
	ok(t, "Put of one that is there", x.Put(of(5)), api.ErrTwice)
	ok(t, "Put of one that may not be", x.Put(api.Coin{Point: point(3000), Value: math.MaxUint64}), api.ErrArg)
	if !bytes.Equal(x.Bytes(), was) || x.Len() != 2000 {
		t.Error("what was refused has changed something")
	}
	if again, e := read(t, was); e != api.OK || again.Len() != 2000 {
		t.Errorf("Read of the most: %d", e)
	}
	take(t, x, point(77))
	ok(t, "Put", x.Put(of(2000)), api.OK)
}

// P24.2

func pagesOf(sizes ...int) [][]api.Coin {
	var pages [][]api.Coin
	at := 0
	for _, n := range sizes {
		var page []api.Coin
		for range n {
			page = append(page, of(at))
			at++
		}
		pages = append(pages, page)
	}
	return pages
}

func TestRead(t *testing.T) {
	for _, sizes := range [][]int{{}, {1}, {8}, {1, 1, 1}, {8, 8, 8}, {3, 8, 1, 5}, slices.Repeat([]int{8}, 250), slices.Repeat([]int{1}, 2000)} {
		pages := pagesOf(sizes...)
		x, e := read(t, textOf(pages))
		if e != api.OK {
			t.Errorf("Read of %v: %d", sizes, e)
			continue
		}
		hold(t, x, pages)
		_, e = read(t, join(textOf(pages), []byte{0}))
		ok(t, "Read with one more", e, api.ErrForm)
	}
	text := textOf(pagesOf(3, 1, 2))
	for n := range text {
		_, e := read(t, text[:n:n])
		ok(t, "Read of less", e, api.ErrShort)
		_, e = read(t, text[:n])
		ok(t, "Read of less, with room behind", e, api.ErrShort)
	}
}

func TestReadOfWhatMayNotBe(t *testing.T) {
	one := bytesOf(of(1))
	swapped := pagesOf(3, 2)
	swapped[0][1], swapped[0][2] = swapped[0][2], swapped[0][1]
	across := pagesOf(3, 2)
	across[0][2], across[1][0] = across[1][0], across[0][2]
	pages := pagesOf(3, 2)
	pages[0], pages[1] = pages[1], pages[0]
	twice := pagesOf(2, 2)
	twice[1][0] = twice[0][1]
	within := pagesOf(3)
	within[0][1] = within[0][0]
	spoilt := bytes.Clone(one)
	spoilt[46] = 2
	long := bytes.Clone(one)
	long[47] = 101
	many := textOf(pagesOf(slices.Repeat([]int{8}, 250)...))
	more := slices.Clone(many)
	copy(more, ends.Count(251))
	for i, c := range []struct {
		b []byte
		e api.Errno
	}{
		{textOf(swapped), api.ErrForm}, {textOf(across), api.ErrForm}, {textOf(pages), api.ErrForm}, {textOf(twice), api.ErrForm}, {textOf(within), api.ErrForm},
		{[]byte{1, 0}, api.ErrForm}, {textOf(pagesOf(3, 0, 2)), api.ErrForm}, {textOf(pagesOf(0)), api.ErrForm}, {textOf(pagesOf(2, 0)), api.ErrForm},
		{textOf(pagesOf(9)), api.ErrForm}, {textOf(pagesOf(8, 9, 1)), api.ErrForm}, {textOf(pagesOf(300)), api.ErrForm},
		{join([]byte{1, 1}, spoilt), api.ErrForm}, {join([]byte{1, 1}, long), api.ErrLimit}, {[]byte{253, 1, 0}, api.ErrForm}, {[]byte{1, 253, 1, 0}, api.ErrForm},
		// What is wrong of the whole is told behind what is met from the left.
		{[]byte{2, 0}, api.ErrShort}, {[]byte{2, 0, 1}, api.ErrShort}, {[]byte{2, 0, 253, 3, 0}, api.ErrForm}, {join([]byte{2, 0, 1}, long), api.ErrLimit}, {join([]byte{2, 2}, one, one, []byte{1}, long), api.ErrLimit}, {join([]byte{2, 9}, one), api.ErrShort},
		{bytes.Repeat([]byte{255}, 9), api.ErrShort}, {join([]byte{1}, bytes.Repeat([]byte{255}, 9)), api.ErrShort}, {join(bytes.Repeat([]byte{255}, 9), make([]byte, 1000)), api.ErrShort}, {make([]byte, 2), api.ErrForm},
		// One coin more than there may be, whatever it is.
		{join(more, []byte{1}, bytesOf(of(2000))), api.ErrLimit}, {join(more, []byte{1}), api.ErrLimit}, {join(more, []byte{1}, spoilt), api.ErrLimit}, {join(more, []byte{0}), api.ErrForm}, {more, api.ErrShort},
		{textOf(pagesOf(2001)), api.ErrLimit}, {textOf(pagesOf(2000)), api.ErrForm}, {textOf(pagesOf(2000))[:90000], api.ErrShort},
	} {
		_, e := read(t, c.b)
		if e != c.e {
			t.Errorf("%d: Read: %d, not %d", i, e, c.e)
		}
	}
}

// P24.4: All hangs on the coins alone.
func TestAnyOrder(t *testing.T) {
	r := rand.New(rand.NewSource(3))
	var want []api.Coin
	for n := range 50 {
		want = append(want, of(n))
	}
	for range 50 {
		x := table.New()
		for _, n := range r.Perm(90) {
			x.Put(of(n))
		}
		for _, n := range r.Perm(40) {
			take(t, x, point(n+50))
		}
		if !sameCoins(x.All(), want) {
			t.Fatalf("All = %v", x.All())
		}
	}
}

func TestCopy(t *testing.T) {
	x := table.New()
	for n := range 30 {
		x.Put(of(n * 2))
	}
	pages := func(x *table.Table) [][]api.Coin {
		var l [][]api.Coin
		for n := 0; ; n++ {
			page, e := x.Page(n)
			if e != api.OK {
				return l
			}
			l = append(l, page)
		}
	}
	was := pages(x)
	c := x.Copy()
	hold(t, c, was)
	for n := range 30 {
		c.Put(of(n*2 + 1))
		take(t, c, point(n*2))
		hold(t, x, was)
	}
	d := x.Copy()
	for n := range 30 {
		take(t, x, point(n*2))
		x.Put(of(n*2 + 1))
		hold(t, d, was)
	}
	e := table.New()
	f := e.Copy()
	e.Put(of(1))
	hold(t, f, nil)
}

// Rule 5: a nil pointer, and a zero object.
func TestNil(t *testing.T) {
	for _, x := range []*table.Table{nil, {}} {
		_, e1 := take(t, x, point(1))
		_, e2 := get(t, x, point(1))
		page, e3 := x.Page(0)
		_, e4 := x.Page(-1)
		for _, e := range []api.Errno{e1, e2, e3, e4, x.Put(of(1)), x.Put(api.Coin{Value: math.MaxUint64})} {
			ok(t, "of nil", e, api.ErrNil)
		}
		if len(page) != 0 || len(x.Bytes()) != 0 || x.Len() != 0 || len(x.All()) != 0 || x.Sum() != 0 || x.Copy() != nil {
			t.Error("of nil something is told")
		}
	}
}

// The rules that hold everywhere: what is handed in stays as it is, what is answered is new memory.
func TestMemory(t *testing.T) {
	spoil := func(l []api.Coin) {
		for i, c := range l[:cap(l)] {
			for k := range c.Lock[:cap(c.Lock)] {
				c.Lock[:cap(c.Lock)][k] ^= 255
			}
			l[:cap(l)][i] = api.Coin{Value: 7}
		}
	}
	x := table.New()
	c := of(3)
	lock := append(bytes.Clone(c.Lock), 1, 2, 3)
	c.Lock = lock[:3]
	x.Put(c)
	for n := range 12 {
		x.Put(of(n))
	}
	if !bytes.Equal(lock, append(of(3).Lock, 1, 2, 3)) {
		t.Error("what was put has changed")
	}
	want := x.Bytes()
	lock[0] ^= 255
	page, _ := x.Page(0)
	one, _ := x.Get(point(3))
	spoil(page)
	spoil(x.All())
	spoil([]api.Coin{one})
	text := x.Bytes()
	for i := range text[:cap(text)] {
		text[:cap(text)][i] ^= 255
	}
	if !bytes.Equal(x.Bytes(), want) {
		t.Error("a table shares memory")
	}
	// What is taken from a table is not that of its copy.
	y := x.Copy()
	gone, _ := x.Take(point(3))
	spoil([]api.Coin{gone})
	if !bytes.Equal(y.Bytes(), want) {
		t.Error("a table shares memory with what was taken from another one")
	}
	room := join(want, make([]byte, 9))
	z, _ := table.Read(room[:len(want)])
	for i := range room {
		room[i] ^= 255
	}
	if !bytes.Equal(z.Bytes(), want) {
		t.Error("a table shares memory with what was read")
	}
}
