package check_test

import (
	"bytes"
	"math"
	"slices"
	"testing"

	"moneyer/api"
	"moneyer/block"
	"moneyer/check"
	"moneyer/coin"
	"moneyer/mint"
	"moneyer/rule"
	"moneyer/target"
)

const height = 40

// here is where the blocks of these tests stand.
var here = api.Ctx{Height: height, Time: 1000, Bits: api.Limit, Prev: api.Hash{9}}

func ok(t *testing.T, what string, got, want api.Errno) {
	t.Helper()
	if got != want {
		t.Errorf("%s: %d, not %d", what, got, want)
	}
}

func sameCoins(a, b []api.Coin) bool { return slices.EqualFunc(a, b, coin.Same) }

func outside(t *testing.T, b api.Block, h uint32) ([]api.Point, api.Errno) {
	t.Helper()
	l, e := check.Outside(b, h)
	if e != api.OK && len(l) != 0 {
		t.Errorf("Outside = %v, %d", l, e)
	}
	return l, e
}

func made(t *testing.T, b api.Block, h uint32) ([]api.Coin, api.Errno) {
	t.Helper()
	l, e := check.Made(b, h)
	if e != api.OK && len(l) != 0 {
		t.Errorf("Made = %v, %d", l, e)
	}
	return l, e
}

func checked(t *testing.T, b api.Block, c api.Ctx, spent []api.Coin) (api.Made, api.Errno) {
	t.Helper()
	m, e := check.Block(b, c, spent)
	if e != api.OK && (len(m.Coins) != 0 || m.Fees != 0) {
		t.Errorf("Block = %v, %d", m, e)
	}
	return m, e
}

// old answers a coin from outside, of a lock that is open.
func old(n int, value uint64) api.Coin {
	return api.Coin{Point: api.Point{Tx: api.Hash{byte(n), 3}, N: uint16(n), Height: 7}, Value: value, Lock: mint.Free(0)[0].Lock}
}

func base(n int, value uint64, at uint32) api.Coin {
	c := old(n, value)
	c.Base, c.Point.Height = true, at
	return c
}

func first(outs ...api.Out) api.Tx { return mint.First(height, outs...) }

func spend(coins []api.Coin, values ...uint64) api.Tx {
	return mint.Spend(coins, mint.Free(values...)...)
}

func coins(l ...api.Coin) []api.Coin { return l }

// own answers the output n of a transaction of this block.
func own(t api.Tx, n int) api.Coin { return mint.Coin(t, n, height) }

const subsidy = api.Subsidy / 4 // of the heights from 32 to 47

// The chapter's examples.
func TestExamples(t *testing.T) {
	_, e := outside(t, api.Block{}, 1)
	ok(t, "Outside", e, api.ErrForm)
	b := mint.Block(mint.Begin(), mint.First(1, mint.Free(api.Subsidy)...))
	if m, e := checked(t, b, mint.Begin(), nil); m.Fees != 0 || len(m.Coins) != 1 || e != api.OK {
		t.Errorf("Block = %v, %d", m, e)
	}
	more := mint.Begin()
	more.Height++
	_, e = checked(t, b, more, nil)
	ok(t, "Block, a height more", e, api.ErrRule)
}

// P27.1, and what P27.2 answers of blocks that hold.
func TestWhatIsMade(t *testing.T) {
	a, b, c := old(1, 100), old(2, 50), old(3, 7)
	f := first(mint.Free(11, 12)...)
	x := spend(coins(a, b), 20, 30, 40)
	y := spend(coins(own(x, 1), c), 36)
	z := spend(coins(own(y, 0), own(x, 0)), 1, 2)
	for i, w := range []struct {
		txs  []api.Tx
		from []api.Coin
		made []api.Coin
		fees uint64
	}{
		{[]api.Tx{first()}, nil, nil, 0},
		{[]api.Tx{f}, nil, coins(own(f, 0), own(f, 1)), 0},
		{[]api.Tx{f, x}, coins(a, b), coins(own(f, 0), own(f, 1), own(x, 0), own(x, 1), own(x, 2)), 60},
		{[]api.Tx{f, x, y}, coins(a, b, c), coins(own(f, 0), own(f, 1), own(x, 0), own(x, 2), own(y, 0)), 61},
		{[]api.Tx{f, x, y, z}, coins(a, b, c), coins(own(f, 0), own(f, 1), own(x, 2), own(z, 0), own(z, 1)), 114},
		// The first one takes the subsidy and all fees.
		{[]api.Tx{first(mint.Free(subsidy)...)}, nil, coins(own(first(mint.Free(subsidy)...), 0)), 0},
		{[]api.Tx{first(mint.Free(subsidy, 61)...), x, y}, coins(a, b, c), coins(own(first(mint.Free(subsidy, 61)...), 0), own(first(mint.Free(subsidy, 61)...), 1), own(x, 0), own(x, 2), own(y, 0)), 61},
	} {
		block := mint.Block(here, w.txs...)
		var points []api.Point
		for _, c := range w.from {
			points = append(points, c.Point)
		}
		if l, e := outside(t, block, height); !slices.Equal(l, points) || e != api.OK {
			t.Errorf("%d: Outside = %v, %d", i, l, e)
		}
		if l, e := made(t, block, height); !sameCoins(l, w.made) || e != api.OK {
			t.Errorf("%d: Made = %v, %d", i, l, e)
		}
		if m, e := checked(t, block, here, w.from); !sameCoins(m.Coins, w.made) || m.Fees != w.fees || e != api.OK {
			t.Errorf("%d: Block = %v, %d", i, m, e)
		}
	}
}

// What is not its own: of another height, of a transaction behind the input's, of an output that it has not, of its own transaction.
func TestWhatIsNotItsOwn(t *testing.T) {
	a := old(1, 100)
	x := spend(coins(a), 20, 30)
	elsewhere := own(x, 0)
	elsewhere.Point.Height = height - 1
	beyond := own(x, 1)
	beyond.Point.N = 2
	mine := own(x, 1)
	for i, c := range []struct {
		txs  []api.Tx
		from []api.Coin
	}{
		{[]api.Tx{first(), x, spend(coins(elsewhere), 5)}, coins(a, elsewhere)},
		{[]api.Tx{first(), x, spend(coins(beyond), 5)}, coins(a, beyond)},
		{[]api.Tx{first(), spend(coins(mine), 5), x}, coins(mine, a)},
	} {
		b := mint.Block(here, c.txs...)
		var points []api.Point
		for _, c := range c.from {
			points = append(points, c.Point)
		}
		if l, e := outside(t, b, height); !slices.Equal(l, points) || e != api.OK {
			t.Errorf("%d: Outside = %v, %d", i, l, e)
		}
		if l, e := made(t, b, height); len(l) != 3 || e != api.OK {
			t.Errorf("%d: Made = %v, %d", i, l, e)
		}
		// At another height nothing is its own, and it makes other coins.
		l, _ := made(t, b, height+1)
		if len(l) != 3 || l[0].Point.Height != height+1 {
			t.Errorf("%d: Made = %v", i, l)
		}
	}
	b := mint.Block(here, first(), x, spend(coins(mine), 5))
	if l, _ := outside(t, b, height-1); len(l) != 2 {
		t.Errorf("Outside, a height less = %v", l)
	}
}

func TestRuleComesFirst(t *testing.T) {
	bad := mint.Block(here, first(), spend(coins(old(1, 5), old(1, 5)), 1))
	for i, c := range []struct {
		b api.Block
		e api.Errno
	}{{api.Block{}, api.ErrForm}, {mint.Block(here), api.ErrForm}, {bad, api.ErrRule}, {mint.Block(here, spend(coins(old(1, 5)))), api.ErrRule}} {
		_, e1 := outside(t, c.b, height)
		_, e2 := made(t, c.b, height)
		// Ahead of ErrArg, too.
		_, e3 := checked(t, c.b, here, coins(old(1, math.MaxUint64)))
		if e1 != c.e || e2 != c.e || e3 != c.e || rule.Block(c.b) != c.e {
			t.Errorf("%d: %d, %d, %d", i, e1, e2, e3)
		}
	}
}

// P27.2

func TestSpentCoins(t *testing.T) {
	a, b := old(1, 100), old(2, 50)
	good := mint.Block(here, first(), spend(coins(a, b), 20))
	_, e := checked(t, good, here, coins(a, b))
	ok(t, "Block", e, api.OK)
	much, long := b, b
	much.Value, long.Lock = api.MaxMoney+1, make([]byte, 101)
	moved := b
	moved.Point.Height++
	// ErrArg comes ahead of what is wrong of the head.
	bad := good
	bad.Head.Time = 0
	bad = mint.Mined(bad)
	for i, l := range [][]api.Coin{nil, coins(a), coins(b, a), coins(a, b, b), coins(a, a), coins(a, moved), coins(a, much), coins(a, long), coins(b), {{}, {}}} {
		_, e1 := checked(t, good, here, l)
		_, e2 := checked(t, bad, here, l)
		if e1 != api.ErrArg || e2 != api.ErrArg {
			t.Errorf("%d: %d, %d", i, e1, e2)
		}
	}
	_, e = checked(t, bad, here, coins(a, b))
	ok(t, "Block of another head", e, api.ErrRule)
	_, e = checked(t, mint.Block(here, first()), here, coins(a))
	ok(t, "Block that spends none", e, api.ErrArg)
}

func TestHeads(t *testing.T) {
	change := func(f func(*api.Block)) api.Block {
		b := mint.Block(here, first())
		f(&b)
		return mint.Mined(b)
	}
	for i, c := range []struct {
		b api.Block
		e api.Errno
	}{
		{change(func(b *api.Block) {}), api.OK},
		{change(func(b *api.Block) { b.Head.Time = 1001 }), api.OK},
		{change(func(b *api.Block) { b.Head.Time = math.MaxUint32 }), api.OK},
		{change(func(b *api.Block) { b.Head.Time = 1000 }), api.ErrRule},
		{change(func(b *api.Block) { b.Head.Time = 999 }), api.ErrRule},
		{change(func(b *api.Block) { b.Head.Time = 0 }), api.ErrRule},
		{change(func(b *api.Block) { b.Head.Prev[31]++ }), api.ErrRule},
		{change(func(b *api.Block) { b.Head.Prev = api.Hash{} }), api.ErrRule},
		{change(func(b *api.Block) { b.Head.Bits = 0x207ffffe }), api.ErrRule},
		{change(func(b *api.Block) { b.Head.Bits = 0x2000ffff }), api.ErrRule},
		{change(func(b *api.Block) { b.Txs[0].After = height - 1 }), api.ErrRule},
		{change(func(b *api.Block) { b.Txs[0].After = height + 1 }), api.ErrRule},
		{change(func(b *api.Block) { b.Txs[0].After = 0 }), api.ErrRule},
	} {
		_, e := checked(t, c.b, here, nil)
		if e != c.e || rule.Block(c.b) != api.OK {
			t.Errorf("%d: %d, not %d", i, e, c.e)
		}
	}
	// Ahead of what is wrong of the transactions.
	a := old(1, 5)
	a.Lock = nil
	b := mint.Block(here, first(), spend(coins(a), 5))
	_, e := checked(t, b, here, coins(a))
	ok(t, "a lock that is not opened", e, api.ErrScript)
	b.Head.Time = 5
	_, e = checked(t, mint.Mined(b), here, coins(a))
	ok(t, "that, and a head", e, api.ErrRule)
}

// shut answers a coin whose lock nothing opens.
func shut(n int, value uint64) api.Coin {
	c := old(n, value)
	c.Lock = []byte{133}
	return c
}

func TestTransactions(t *testing.T) {
	late := func(x api.Tx, after uint32) api.Tx { x.After = after; return x }
	young := base(5, 10, height-3)
	for i, c := range []struct {
		txs  []api.Tx
		from []api.Coin
		e    api.Errno
	}{
		// After.
		{[]api.Tx{first(), late(spend(coins(old(1, 5))), height)}, coins(old(1, 5)), api.OK},
		{[]api.Tx{first(), late(spend(coins(old(1, 5))), height-1)}, coins(old(1, 5)), api.OK},
		{[]api.Tx{first(), late(spend(coins(old(1, 5))), height+1)}, coins(old(1, 5)), api.ErrRule},
		{[]api.Tx{first(), late(spend(coins(old(1, 5))), math.MaxUint32)}, coins(old(1, 5)), api.ErrRule},
		{[]api.Tx{first(), late(spend(coins(shut(1, 5))), height+1)}, coins(shut(1, 5)), api.ErrRule},
		// Maturity.
		{[]api.Tx{first(), spend(coins(base(1, 5, height-4)))}, coins(base(1, 5, height-4)), api.OK},
		{[]api.Tx{first(), spend(coins(base(1, 5, 0)))}, coins(base(1, 5, 0)), api.OK},
		{[]api.Tx{first(), spend(coins(young))}, coins(young), api.ErrRule},
		{[]api.Tx{first(), spend(coins(base(1, 5, height)))}, coins(base(1, 5, height)), api.ErrRule},
		{[]api.Tx{first(), spend(coins(base(1, 5, height+9)))}, coins(base(1, 5, height+9)), api.ErrRule},
		{[]api.Tx{first(), spend(coins(base(1, 5, math.MaxUint32)))}, coins(base(1, 5, math.MaxUint32)), api.ErrRule},
		{[]api.Tx{first(), spend(coins(base(1, 5, math.MaxUint32-3)))}, coins(base(1, 5, math.MaxUint32-3)), api.ErrRule},
		{[]api.Tx{first(mint.Free(5)...), spend(coins(own(first(mint.Free(5)...), 0)))}, nil, api.ErrRule},
		// What is no Base coin is of any height.
		{[]api.Tx{first(), spend(coins(old(1, 5))), spend(coins(own(spend(coins(old(2, 5)), 3), 0)), 3)}[:2], coins(old(1, 5)), api.OK},
		// Locks, and which of two errors comes first: by inputs, of each Maturity ahead of its lock; by transactions.
		{[]api.Tx{first(), spend(coins(shut(1, 5)))}, coins(shut(1, 5)), api.ErrScript},
		{[]api.Tx{first(), spend(coins(young, shut(1, 5)))}, coins(young, shut(1, 5)), api.ErrRule},
		{[]api.Tx{first(), spend(coins(shut(1, 5), young))}, coins(shut(1, 5), young), api.ErrScript},
		{[]api.Tx{first(), spend(coins(old(2, 5), shut(1, 5)), 99)}, coins(old(2, 5), shut(1, 5)), api.ErrScript},
		{[]api.Tx{first(), spend(coins(old(2, 5)), 99), spend(coins(shut(1, 5)))}, coins(old(2, 5), shut(1, 5)), api.ErrRule},
		{[]api.Tx{first(), spend(coins(shut(1, 5))), spend(coins(old(2, 5)), 99)}, coins(shut(1, 5), old(2, 5)), api.ErrScript},
		{[]api.Tx{first(), spend(coins(shut(1, 5))), late(spend(coins(old(2, 5))), height+1)}, coins(shut(1, 5), old(2, 5)), api.ErrScript},
		{[]api.Tx{first(), late(spend(coins(old(2, 5))), height+1), spend(coins(shut(1, 5)))}, coins(old(2, 5), shut(1, 5)), api.ErrRule},
		{[]api.Tx{first(mint.Free(subsidy + 99)...), spend(coins(shut(1, 5)))}, coins(shut(1, 5)), api.ErrScript},
		// Worth.
		{[]api.Tx{first(), spend(coins(old(1, 5), old(2, 6)), 11)}, coins(old(1, 5), old(2, 6)), api.OK},
		{[]api.Tx{first(), spend(coins(old(1, 5), old(2, 6)), 5, 7)}, coins(old(1, 5), old(2, 6)), api.ErrRule},
		{[]api.Tx{first(), spend(coins(old(1, 0)), 1)}, coins(old(1, 0)), api.ErrRule},
		{[]api.Tx{first(), spend(coins(old(1, 9))), spend(coins(old(2, 6)), 7)}, coins(old(1, 9), old(2, 6)), api.ErrRule},
		{[]api.Tx{first(mint.Free(subsidy)...)}, nil, api.OK},
		{[]api.Tx{first(mint.Free(subsidy + 1)...)}, nil, api.ErrRule},
		{[]api.Tx{first(mint.Free(subsidy, 1)...)}, nil, api.ErrRule},
		{[]api.Tx{first(mint.Free(subsidy + 4)...), spend(coins(old(1, 5)), 1)}, coins(old(1, 5)), api.OK},
		{[]api.Tx{first(mint.Free(subsidy + 5)...), spend(coins(old(1, 5)), 1)}, coins(old(1, 5)), api.ErrRule},
		{[]api.Tx{first(mint.Free(subsidy + 4 + 6)...), spend(coins(old(1, 5)), 1), spend(coins(old(2, 6)))}, coins(old(1, 5), old(2, 6)), api.OK},
		{[]api.Tx{first(mint.Free(api.MaxMoney)...), spend(coins(old(1, api.MaxMoney)))}, coins(old(1, api.MaxMoney)), api.OK},
	} {
		if _, e := checked(t, mint.Block(here, c.txs...), here, c.from); e != c.e {
			t.Errorf("%d: %d, not %d", i, e, c.e)
		}
	}
	// As much as a block may spend and pay.
	var txs []api.Tx
	var from []api.Coin
	txs = append(txs, first(mint.Free(api.MaxMoney)...))
	for i := range 15 {
		var l []api.Coin
		for k := range 16 {
			l = append(l, old(i*16+k, api.MaxMoney))
		}
		from = append(from, l...)
		txs = append(txs, spend(l, api.MaxMoney))
	}
	if m, e := checked(t, mint.Block(here, txs...), here, from); m.Fees != 15*15*api.MaxMoney || e != api.OK {
		t.Errorf("the most: %d, %d", m.Fees, e)
	}
}

// Subsidies of all heights: 0 of the height 0.
func TestSubsidies(t *testing.T) {
	for _, h := range []uint32{0, 1, 15, 16, 17, 31, 32, 100, 16 * 32, 16*33 - 1, 16 * 33, 16 * 64, math.MaxUint32} {
		c := here
		c.Height = h
		for _, more := range []uint64{0, 1} {
			b := mint.Block(c, mint.First(h, mint.Free(target.Subsidy(h)+more)...))
			if _, e := checked(t, b, c, nil); (e == api.OK) != (more == 0) {
				t.Errorf("%d more than the subsidy at %d: %d", more, h, e)
			}
		}
	}
}

// What is signed is the input's own digest, at the block's own height.
func TestLocks(t *testing.T) {
	seed := api.Hash{4}
	locked := func(n int) api.Coin {
		c := old(n, 9)
		c.Lock = mint.Locked(0, seed).Lock
		return c
	}
	a, b := locked(1), locked(2)
	x := spend(coins(a, b), 3)
	x = mint.Signed(mint.Signed(x, 0, a, seed), 1, b, seed)
	_, e := checked(t, mint.Block(here, first(), x), here, coins(a, b))
	ok(t, "two signatures", e, api.OK)
	y := x
	y.Ins = []api.In{{Point: a.Point, Unlock: x.Ins[1].Unlock}, {Point: b.Point, Unlock: x.Ins[0].Unlock}}
	_, e = checked(t, mint.Block(here, first(), y), here, coins(a, b))
	ok(t, "two signatures, the other way round", e, api.ErrScript)
	other := a
	other.Value++
	_, e = checked(t, mint.Block(here, first(), x), here, coins(other, b))
	ok(t, "another coin", e, api.ErrScript)
	y = x
	y.Outs = mint.Free(4)
	_, e = checked(t, mint.Block(here, first(), y), here, coins(a, b))
	ok(t, "another output", e, api.ErrScript)
	// A lock that asks for a height: push it, height, push 1.
	for d := -1; d <= 1; d++ {
		c := old(3, 9)
		c.Lock = []byte{1, byte(height + d), 147, 1, 1}
		_, e := checked(t, mint.Block(here, first(), spend(coins(c))), here, coins(c))
		if (e == api.OK) != (d <= 0) {
			t.Errorf("a lock of the height %d: %d", height+d, e)
		}
	}
	// Coins of its own have locks too.
	z := mint.Spend(coins(old(1, 9)), mint.Locked(9, seed))
	w := spend(coins(own(z, 0)), 1)
	_, e = checked(t, mint.Block(here, first(), z, w), here, coins(old(1, 9)))
	ok(t, "its own coin without a signature", e, api.ErrScript)
	_, e = checked(t, mint.Block(here, first(), z, mint.Signed(w, 0, own(z, 0), seed)), here, coins(old(1, 9)))
	ok(t, "its own coin with one", e, api.OK)
	// Bytes that are no script.
	c := old(3, 9)
	c.Lock = []byte{255}
	_, e = checked(t, mint.Block(here, first(), spend(coins(c))), here, coins(c))
	ok(t, "a lock that is no script", e, api.ErrScript)
}

// P27.3: what it makes is worth at most what it spends from outside and the subsidy.
func TestNothingComesFromNothing(t *testing.T) {
	a, b := old(1, 100), old(2, 50)
	x := spend(coins(a, b), 20, 30, 40)
	y := spend(coins(own(x, 1)), 5, 6)
	for _, take := range []uint64{0, 1, 78, 79, 80, 1000} {
		m, e := checked(t, mint.Block(here, first(mint.Free(subsidy, take)...), x, y), here, coins(a, b))
		sum := uint64(0)
		for _, c := range m.Coins {
			sum += c.Value
		}
		if (e == api.OK) != (take <= 79) || e == api.OK && (sum > 150+subsidy || m.Fees != 79) {
			t.Errorf("%d: %d, %d, %d", take, sum, m.Fees, e)
		}
	}
}

// The rules that hold everywhere: what is handed in stays as it is, what is answered is new memory.
func TestMemory(t *testing.T) {
	a, b := old(1, 100), old(2, 50)
	x := spend(coins(a, b), 20, 30, 40)
	y := spend(coins(own(x, 1)), 5, 6)
	blk := mint.Block(here, first(mint.Free(1)...), x, y)
	was, _ := block.Put(blk)
	from := append(make([]api.Coin, 0, 5), a, b, old(3, 3))[:2]
	run := func() ([]api.Point, []api.Coin, api.Made) {
		p, _ := check.Outside(blk, height)
		m, _ := check.Made(blk, height)
		c, _ := check.Block(blk, here, from)
		return p, m, c
	}
	spoil := func(l []api.Coin) {
		for i, c := range l[:cap(l)] {
			for k := range c.Lock[:cap(c.Lock)] {
				c.Lock[:cap(c.Lock)][k] ^= 255
			}
			l[:cap(l)][i] = api.Coin{}
		}
	}
	p1, m1, c1 := run()
	p2, m2, c2 := run()
	for i := range p1[:cap(p1)] {
		p1[:cap(p1)][i] = api.Point{}
	}
	spoil(m1)
	spoil(c1.Coins)
	if !slices.Equal(p2, []api.Point{a.Point, b.Point}) || !sameCoins(m2, c2.Coins) || len(m2) != 5 || !bytes.Equal(m2[0].Lock, blk.Txs[0].Outs[0].Lock) {
		t.Error("two answers share memory")
	}
	if text, _ := block.Put(blk); !bytes.Equal(text, was) || !sameCoins(from[:3], coins(a, b, old(3, 3))) {
		t.Error("what was handed in has changed")
	}
}
