package tree_test

import (
	"math"
	"math/rand"
	"slices"
	"testing"

	"moneyer/api"
	"moneyer/big"
	"moneyer/head"
	"moneyer/target"
	"moneyer/tree"
)

const small = 0x01010000 // the bits of the target 1

func ok(t *testing.T, what string, got, want api.Errno) {
	t.Helper()
	if got != want {
		t.Errorf("%s: %d, not %d", what, got, want)
	}
}

func add(t *testing.T, x *tree.Tree, h api.Head) (int, api.Errno) {
	t.Helper()
	n, e := x.Add(h)
	if e != api.OK && n != 0 {
		t.Errorf("Add = %d, %d", n, e)
	}
	return n, e
}

func ctx(t *testing.T, x *tree.Tree, n int) (api.Ctx, api.Errno) {
	t.Helper()
	c, e := x.Ctx(n)
	if e != api.OK && c != (api.Ctx{}) {
		t.Errorf("Ctx = %v, %d", c, e)
	}
	return c, e
}

func chain(t *testing.T, x *tree.Tree, n int) ([]int, api.Errno) {
	t.Helper()
	l, e := x.Chain(n)
	if e != api.OK && len(l) != 0 {
		t.Errorf("Chain = %v, %d", l, e)
	}
	return l, e
}

// upon answers a head upon a block, that needs no work here.
func upon(t *testing.T, x *tree.Tree, n int, time, bits uint32) api.Head {
	t.Helper()
	k, e := x.Known(n)
	ok(t, "Known", e, api.OK)
	return api.Head{Prev: k.Id, Time: time, Bits: bits, Nonce: uint32(x.Len())}
}

// The chapter's examples.
func TestExamples(t *testing.T) {
	x := tree.New()
	if x.Len() != 1 || x.Best() != 0 {
		t.Errorf("New: %d, %d", x.Len(), x.Best())
	}
	_, e := add(t, x, head.Begin())
	ok(t, "Add(the beginning)", e, api.ErrTwice)
	_, e = add(t, x, api.Head{})
	ok(t, "Add(zero)", e, api.ErrNone)
	if c, e := ctx(t, x, 0); c.Height != 1 || e != api.OK {
		t.Errorf("Ctx(0) = %v, %d", c, e)
	}
	_, e = chain(t, x, 1)
	ok(t, "Chain(1)", e, api.ErrArg)
	if n, e := x.Fork(0, 0); n != 0 || e != api.OK {
		t.Errorf("Fork(0, 0) = %d, %d", n, e)
	}
}

func TestTheBeginning(t *testing.T) {
	x := tree.New()
	work, _ := target.Work(api.Limit)
	begin := head.Begin()
	if k, e := x.Known(0); k != (api.Known{Id: head.Id(begin), Head: begin, Parent: -1, Work: work}) || e != api.OK {
		t.Errorf("Known(0) = %v, %d", k, e)
	}
	if c, e := ctx(t, x, 0); c != (api.Ctx{Height: 1, Bits: api.Limit, Prev: head.Id(begin)}) || e != api.OK {
		t.Errorf("Ctx(0) = %v, %d", c, e)
	}
}

// A model of a tree: heads, parents, works.
type model struct{ l []api.Known }

func (m *model) chain(n int) []int {
	if n < 0 {
		return nil
	}
	return append(m.chain(m.l[n].Parent), n)
}

func (m *model) ctx(n int) api.Ctx {
	k := m.l[n]
	c := api.Ctx{Height: k.Height + 1, Time: k.Head.Time, Bits: k.Head.Bits, Prev: k.Id}
	if c.Height%8 == 0 {
		l := m.chain(n)
		begin := m.l[l[len(l)-8]].Head.Time
		span := uint32(0)
		if begin < k.Head.Time {
			span = k.Head.Time - begin
		}
		c.Bits, _ = target.Next(k.Head.Bits, span)
	}
	return c
}

func (m *model) best() int {
	best := 0
	for n, k := range m.l {
		if big.Less(m.l[best].Work, k.Work) {
			best = n
		}
	}
	return best
}

func (m *model) fork(a, b int) int {
	last := 0
	x, y := m.chain(a), m.chain(b)
	for i := range min(len(x), len(y)) {
		if x[i] == y[i] {
			last = x[i]
		}
	}
	return last
}

func hold(t *testing.T, x *tree.Tree, m *model) {
	t.Helper()
	if x.Len() != len(m.l) || x.Best() != m.best() {
		t.Fatalf("Len = %d, Best = %d, not %d", x.Len(), x.Best(), m.best())
	}
	for n, k := range m.l {
		if got, e := x.Known(n); got != k || e != api.OK {
			t.Fatalf("Known(%d) = %v, %d", n, got, e)
		}
		if got, e := x.Find(k.Id); got != n || e != api.OK {
			t.Fatalf("Find(%d) = %d, %d", n, got, e)
		}
		if c, e := ctx(t, x, n); c != m.ctx(n) || e != api.OK {
			t.Fatalf("Ctx(%d) = %v, %d, not %v", n, c, e, m.ctx(n))
		}
		if l, e := chain(t, x, n); !slices.Equal(l, m.chain(n)) || e != api.OK {
			t.Fatalf("Chain(%d) = %v, %d", n, l, e)
		}
	}
}

// P28.1 to P28.3, held against the model.
func TestAgainstTheModel(t *testing.T) {
	r := rand.New(rand.NewSource(1))
	for round := range 8 {
		x := tree.New()
		first, _ := x.Known(0)
		m := &model{l: []api.Known{first}}
		for range 60 {
			// Mostly upon one of the last ones: so chains are long.
			parent := max(0, len(m.l)-1-r.Intn(1+round%4))
			bits := m.ctx(parent).Bits
			if r.Intn(4) == 0 {
				bits = []uint32{api.Limit, 0x2000ffff, 0x1f00ffff, 0x20123456}[r.Intn(4)]
			}
			h := upon(t, x, parent, uint32(r.Intn(4000)), bits)
			work, _ := target.Work(bits)
			sum, _ := big.Add(m.l[parent].Work, work)
			best := x.Best()
			n, e := add(t, x, h)
			if n != len(m.l) || e != api.OK {
				t.Fatalf("Add = %d, %d", n, e)
			}
			m.l = append(m.l, api.Known{Id: head.Id(h), Head: h, Parent: parent, Height: m.l[parent].Height + 1, Work: sum})
			if x.Best() != best && x.Best() != n {
				t.Fatalf("Best changes from %d to %d where %d is added", best, x.Best(), n)
			}
			_, e = add(t, x, h)
			ok(t, "Add again", e, api.ErrTwice)
		}
		hold(t, x, m)
		for range 300 {
			a, b := r.Intn(len(m.l)), r.Intn(len(m.l))
			if n, e := x.Fork(a, b); n != m.fork(a, b) || e != api.OK {
				t.Fatalf("Fork(%d, %d) = %d, %d", a, b, n, e)
			}
		}
		// A copy is another one.
		c := x.Copy()
		hold(t, c, m)
		add(t, c, upon(t, c, 3, 5, api.Limit))
		add(t, c, upon(t, c, x.Best(), 5, small))
		hold(t, x, m)
		mine, _ := c.Known(c.Len() - 2)
		d := x.Copy()
		add(t, x, upon(t, x, 3, 6, api.Limit))
		add(t, x, upon(t, x, d.Best(), 6, small))
		hold(t, d, m)
		if k, _ := c.Known(c.Len() - 2); k != mine {
			t.Fatalf("a copy has %v, not %v", k, mine)
		}
	}
}

// The span of a turn, at its edges: the bits change just where the height is a multiple of Turn.
func TestTurns(t *testing.T) {
	for _, c := range []struct {
		times [8]uint32 // of the heights 0 (which is 0) to 7
		span  uint32
	}{
		{[8]uint32{0, 1, 2, 3, 4, 5, 6, 7}, 7}, {[8]uint32{0, 9, 9, 9, 9, 9, 9, 480}, 480}, {[8]uint32{0, 5000, 1, 1, 1, 1, 1, 0}, 0}, {[8]uint32{0, 1, 1, 1, 1, 1, 1, math.MaxUint32}, math.MaxUint32}, {[8]uint32{0, 7, 7, 7, 7, 7, 7, 300}, 300},
	} {
		x := tree.New()
		bits := uint32(0x1f123456)
		for i, time := range c.times[1:] {
			if k, e := ctx(t, x, i); k.Height != uint32(i+1) || i > 0 && k.Bits != bits || e != api.OK {
				t.Errorf("Ctx(%d) = %v, %d", i, k, e)
			}
			add(t, x, upon(t, x, i, time, bits))
		}
		want, _ := target.Next(bits, c.span)
		if k, e := ctx(t, x, 7); k.Height != 8 || k.Bits != want || e != api.OK {
			t.Errorf("Ctx(7) of %v = %v, %d", c.times, k, e)
		}
		// The second turn: from the height 8 on.
		for i := 7; i < 15; i++ {
			add(t, x, upon(t, x, i, 2000+100*uint32(i), bits))
		}
		want, _ = target.Next(bits, 700)
		if k, e := ctx(t, x, 15); k.Height != 16 || k.Bits != want || e != api.OK {
			t.Errorf("Ctx(15) = %v, %d", k, e)
		}
	}
	// A time below that of the turn's first block: the span is 0.
	x := tree.New()
	for i := range 15 {
		add(t, x, upon(t, x, i, []uint32{9000, 5}[i/14], 0x1f123456))
	}
	want, _ := target.Next(0x1f123456, 0)
	if k, _ := ctx(t, x, 15); k.Bits != want {
		t.Errorf("Ctx(15) = %v", k)
	}
}

func TestWorks(t *testing.T) {
	x := tree.New()
	a, _ := add(t, x, upon(t, x, 0, 1, small))
	b, _ := add(t, x, upon(t, x, a, 2, small))
	most := api.U256{math.MaxUint64, math.MaxUint64, math.MaxUint64, math.MaxUint64}
	if k, _ := x.Known(b); k.Work != most || x.Best() != b {
		t.Errorf("Known = %v, Best = %d", k, x.Best())
	}
	// More than the most there is not: the first one of these stays the best.
	c, _ := add(t, x, upon(t, x, b, 3, small))
	if k, _ := x.Known(c); k.Work != most || k.Height != 3 || x.Best() != b {
		t.Errorf("Known = %v, Best = %d", k, x.Best())
	}
	// Of the same work the first one.
	x = tree.New()
	a, _ = add(t, x, upon(t, x, 0, 1, api.Limit))
	b, _ = add(t, x, upon(t, x, 0, 2, api.Limit))
	if x.Best() != a {
		t.Errorf("Best = %d", x.Best())
	}
	c, _ = add(t, x, upon(t, x, b, 3, api.Limit))
	if x.Best() != c {
		t.Errorf("Best = %d", x.Best())
	}
}

func TestErrors(t *testing.T) {
	x := tree.New()
	add(t, x, upon(t, x, 0, 1, api.Limit))
	for _, bits := range []uint32{0, 0x03000001, 0x20800000, 0xff7fffff} {
		_, e := add(t, x, upon(t, x, 0, 1, bits))
		ok(t, "Add of bits that may not be", e, api.ErrForm)
		// ErrNone comes first.
		_, e = add(t, x, api.Head{Prev: api.Hash{1}, Bits: bits})
		ok(t, "Add of those without a parent", e, api.ErrNone)
	}
	if x.Len() != 2 {
		t.Errorf("Len = %d", x.Len())
	}
	for _, n := range []int{-1, 2, 3, math.MinInt, math.MaxInt} {
		k, e1 := x.Known(n)
		_, e2 := ctx(t, x, n)
		_, e3 := chain(t, x, n)
		f, e4 := x.Fork(0, n)
		g, e5 := x.Fork(n, 0)
		for _, e := range []api.Errno{e1, e2, e3, e4, e5} {
			ok(t, "no such block", e, api.ErrArg)
		}
		if k != (api.Known{}) || f != 0 || g != 0 {
			t.Errorf("%v, %d, %d", k, f, g)
		}
	}
	if n, e := x.Find(api.Hash{1}); n != 0 || e != api.ErrNone {
		t.Errorf("Find = %d, %d", n, e)
	}
	// The most: 200 with the beginning.
	for x.Len() < api.MaxBlocks {
		n, e := add(t, x, upon(t, x, x.Len()-1, 1, api.Limit))
		if n != x.Len()-1 || e != api.OK {
			t.Fatalf("Add = %d, %d", n, e)
		}
	}
	_, e := add(t, x, upon(t, x, 0, 1, api.Limit))
	ok(t, "Add of one more", e, api.ErrLimit)
	_, e = add(t, x, upon(t, x, 0, 1, 0))
	ok(t, "Add of one more, whose bits may not be", e, api.ErrForm)
	_, e = add(t, x, head.Begin())
	ok(t, "Add of one that is there", e, api.ErrTwice)
	_, e = add(t, x, api.Head{Bits: 1})
	ok(t, "Add of one without a parent", e, api.ErrNone)
	if l, e := chain(t, x, 199); len(l) != 200 || e != api.OK || x.Len() != 200 || x.Best() != 199 {
		t.Errorf("Chain: %d, %d; Len = %d, Best = %d", len(l), e, x.Len(), x.Best())
	}
}

// Rule 5: a nil pointer, and a zero object.
func TestNil(t *testing.T) {
	for _, x := range []*tree.Tree{nil, {}} {
		_, e1 := add(t, x, head.Begin())
		n, e2 := x.Find(api.Hash{})
		k, e3 := x.Known(0)
		_, e4 := ctx(t, x, -1)
		_, e5 := chain(t, x, 0)
		f, e6 := x.Fork(0, 9)
		for _, e := range []api.Errno{e1, e2, e3, e4, e5, e6} {
			ok(t, "of nil", e, api.ErrNil)
		}
		if n != 0 || k != (api.Known{}) || f != 0 || x.Len() != 0 || x.Best() != 0 || x.Copy() != nil {
			t.Error("of nil something is told")
		}
	}
}

// The rules that hold everywhere: what is answered is new memory.
func TestMemory(t *testing.T) {
	x := tree.New()
	for range 9 {
		add(t, x, upon(t, x, x.Len()-1, 1, api.Limit))
	}
	a, _ := x.Chain(7)
	b, _ := x.Chain(7)
	for i := range a[:cap(a)] {
		a[:cap(a)][i] = 99
	}
	if !slices.Equal(b, []int{0, 1, 2, 3, 4, 5, 6, 7}) {
		t.Error("memory is shared")
	}
}
